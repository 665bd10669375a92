import Derived.Test.YtfjajpnfjjdnpaaGreatDoorWClSi

set_option linter.unusedVariables false
set_option linter.unusedSimpArgs false
set_option maxRecDepth 100000
set_option maxHeartbeats 6400000
namespace Go.Proofs.YtfjajpnfjjdnpaaGreatDoor
open Nds
def atP (c:Cl)(x y:Int):Prop:=c.x=x∧c.y=y
instance (c:Cl) (x y:Int):Decidable (atP c x y):=by unfold atP;infer_instance
end Go.Proofs.YtfjajpnfjjdnpaaGreatDoor

namespace Go.Proofs.YtfjajpnfjjdnpaaGreatDoor
open Go.RowKit Nds
theorem Tryz.infoC:(Tryz.prog.info? 78).map (fun i=>(i.zero,i.size,i.bytes))=some (some (cvv cv0),5,72):=by kernel_rfl
def cvcs (l:List Cv):List Value:=l.flatMap encC
theorem zey (l:List Cv):(cvcs l).length=l.length*5:=by
 unfold cvcs
 induction l with
 | nil=>rfl
 | cons x l ih =>
  rw[List.flatMap_cons,List.length_append,ih,List.length_cons];show 5+_=_;omega
theorem zme (l m:List Cv):cvcs (l++m)=cvcs l++cvcs m:=by
 unfold cvcs;rw[List.flatMap_append]
theorem zkP:∀(l:List Cv) (i j:Nat),i<l.length→j<5→(cvcs l)[i*5+j]?=(encC (cat l i))[j]?
 | [],i,_,hi,_=>by simp at hi
 | x :: l,0,j,_,hj=>by
  show(encC x++cvcs l)[0*5+j]?=_;rw[List.getElem?_append_left (by show _<5;omega),show 0*5+j=j by omega];rfl
 | x :: l,i+1,j,hi,hj=>by
  show(encC x++cvcs l)[(i+1)*5+j]?=_;rw[List.getElem?_append_right (by show 5≤_;omega),show(i+1)*5+j-(encC x).length=i*5+j by show _-5=_;omega,zkP l i j (by simpa using hi) hj];rfl
theorem zrY (l:List Cv):∀u∈cvcs l,u.oneCell'=true:=fun u hu=>by
 obtain⟨x,_,hx⟩:=List.mem_flatMap.1 hu;exact zrX x u hx
def OwnC (w:World)(base:Nat)(v:Value)(l:List Cv):Prop:=w.ownsRow base 78 5 v l.length (cvcs l)
theorem OwnC.shape {w:World}{base:Nat}{v:Value}{l:List Cv}(h:OwnC w base v l) :
  ∃A c,v=.slice A l.length c∧l.length≤c∧c≤maxLen∧(A=none→c=0∧l=[])∧(∀a,A=some a→∃g,a=⟨g,0,none⟩∧base≤g∧g<w.heap.size∧(∀i,i<l.length→CvAt w g (i*5) (cat l i))∧∀o,w.frozen? ⟨g,o,none⟩=false):=by
 rcases h.2 with⟨h',hn⟩|⟨g,cap,cur,h',hb,hg,hnc,hcm,hcs,htake⟩
 ·refine⟨none,0,by rw[h',hn],by omega,by simp[maxLen],fun _=>⟨rfl,List.eq_nil_of_length_eq_zero hn⟩,(fun a e=>by cases e)⟩
 ·refine⟨some ⟨g,0,none⟩,cap,h',hnc,hcm,(fun e=>by cases e),fun a e=>?_⟩;cases e;have hlt:g<w.heap.size:=by
   rcases Nat.lt_or_ge g w.heap.size with hlt|hge
   ·exact hlt
   ·rw[Array.getElem?_eq_none hge] at hg;cases hg
  refine⟨g,rfl,hb,hlt,fun i hi=>?_,fun o=>frozen_of_row _ _ _ _ _ hg⟩;have hcell:∀j,j<5→w.cell? ⟨g,i*5+j,none⟩=(encC (cat l i))[j]?:=by
   intro j hj;have hlt:i*5+j<l.length*5:=by omega
   rw[cell_of_row w g (i*5+j) cur _ (0,0) hg,←zkP l i j hi hj,←htake,List.getElem?_take,if_pos hlt];simp
  exact⟨hcell 0 (by omega),hcell 1 (by omega),hcell 2 (by omega),hcell 3 (by omega),hcell 4 (by omega)⟩
theorem OwnC.nil (w:World)(base:Nat):OwnC w base (.slice none 0 0) []:=World.ownsRow_nil w base _ 5
theorem OwnC.kept {w w':World}{base:Nat}{v:Value}{l:List Cv}{row:Option Nat}(h:OwnC w base v l)(hg:w.grownBy w' row)(hv:v.ownBlock=none∨v.ownBlock≠row):OwnC w' base v l:=World.ownsRow.kept h hg hv
theorem OwnC.alloc {w:World}{base:Nat}{v:Value}{l:List Cv}(h:OwnC w base v l)(o:Obj):OwnC (w.alloc o) base v l:=h.kept (World.grownBy_alloc w o none) (by cases v.ownBlock <;> simp)
theorem OwnC.lt {w:World}{base:Nat}{v:Value}{l:List Cv}(h:OwnC w base v l):∀k,v.ownBlock=some k→base≤k∧k<w.heap.size:=World.ownsRow.lt h
theorem OwnC.cs {w:World}{base:Nat}{v:Value}{l:List Cv}(h:OwnC w base v l)(hu:∀x∈l,CvU w x):∃A c,v=.slice A l.length c∧Cs w A c l∧(A=none→c=0)∧∀a,A=some a→base≤a.block:=by
 obtain⟨A,c,h1,h2,h3,h4,h5⟩:=h.shape;refine⟨A,c,h1,⟨hu,h2,h3,fun hn=>?_⟩,fun e=>(h4 e).1,fun a e=>?_⟩
 ·cases A with
  | none=>have:=(h4 rfl).2;subst this;exact absurd hn (Nat.lt_irrefl 0)
  | some a =>
   obtain⟨g,rfl,hg,hlt,hc,_⟩:=h5 a rfl;exact⟨g,0,rfl,hlt,fun i hi=>by rw[Nat.zero_add];exact hc i hi⟩
 ·obtain⟨g,rfl,hg,_⟩:=h5 a e;exact hg
theorem zcv (w:World)(x:Cv):∀j u,(cvcs [x])[j]?=some u→(w.alloc (.cells #[.bool x.sx,.slice x.ax x.xs.length x.cx,.bool x.sy,.slice x.ay x.ys.length x.cy,.int .u8 x.st] 78)).cell? ((⟨w.heap.size,0,none⟩:Addr).add j)=some u:=by
 intro j u hu;have hj:=(List.getElem?_eq_some_iff.1 hu).1;rw[zey] at hj;obtain⟨h0,h1,h2,h3,h4⟩:=CvAt.new w x 78;rw[Nat.zero_add] at h1 h2 h3 h4;have hj5:j<5:=by simpa using hj
 have hadd:(⟨w.heap.size,0,none⟩:Addr).add j=⟨w.heap.size,j,none⟩:=by
  unfold Addr.add;split
  ·rename_i h;subst h;rfl
  ·simp
 rw[hadd]
 match j,hj5 with
 | 0,_=>rw[h0];exact hu
 | 1,_=>rw[h1];exact hu
 | 2,_=>rw[h2];exact hu
 | 3,_=>rw[h3];exact hu
 | 4,_=>rw[h4];exact hu
theorem zbR (w:World)(base:Nat)(v:Value)(xs ys:List Cv)(ty:TypeId)(ad:Addr)(m c:Nat)(how:OwnC w base v xs)(hN:∀j u,(cvcs ys)[j]?=some u→w.cell? (ad.add j)=some u)(hm:ys.length=m)(hs:xs.length+m≤1000000)(hb:base≤w.heap.size) :
  ∃v' w',(Builtin.append_ #[22,22] ty #[v,.slice (some ad) m c]).run Tryz.prog w=.ok v' w'∧OwnC w' base v' (xs++ys)∧w.grownBy w' v.ownBlock∧(v'.ownBlock=v.ownBlock∨v'.ownBlock=some w.heap.size):=by
 obtain⟨i0,hi,hz0,hz1,hz2⟩:=info_parts Tryz.infoC;obtain⟨v',w',hrun,h2,h3,_,h5⟩:=run_append_own_at (P:=Tryz.prog) w base 22 ty 78 i0 (cvv cv0) 5 72 Tryz.underlying22 hi hz0 hz1 hz2 rfl (by omega) v xs.length (cvcs xs) how ad m c (cvcs ys) (by rw[zey,hm]) hN (zrY ys) (by simp only[maxLen];omega) (by omega) hb;refine⟨v',w',hrun,?_,h3,h5⟩;unfold OwnC;rw[zme,List.length_append,hm];exact h2
theorem zcw (w:World){ops:Array Oper}{rest:List Oper}{o:Oper}{a:Act}{Q:Exit→Act→World→Prop}(hg:o.guard=none)(s x:Operand)
  (hop:o.op=Op.call { callee:=Callee.builtin Builtin.append,args:=#[s,x],argTypes:=#[22,22] }) (base:Nat) (v:Value) (xs:List Cv) (y:Cv) (ad:Addr) (c:Nat)
  (hs:a.eval s=v) (hx:a.eval x=.slice (some ad) 1 c) (how:OwnC w base v xs) (hN:∀j u,(cvcs [y])[j]?=some u→w.cell? (ad.add j)=some u) (hsz:xs.length+1≤1000000) (hb:base≤w.heap.size)
  (hK:∀v' w',OwnC w' base v' (xs++[y])→w.grownBy w' v.ownBlock→(v'.ownBlock=v.ownBlock∨v'.ownBlock=some w.heap.size)→wpList Tryz.prog ops Q rest (a.put o.dst v') w') :
  wpList Tryz.prog ops Q (o :: rest) a w:=by
 refine wpList_plain hg fun K hK'=>?_;obtain⟨v',w',hrun,h1,h2,h3⟩:=zbR w base v xs [y] o.type ad 1 c how hN rfl hsz hb;unfold Oper.wp execOp;simp only[hop,resolve,invoke,builtin,Sem.run_bind,Sem.run_pure,Result.andThen_ok,List.map_toArray,List.map_cons,List.map_nil,hs,hx,hrun];exact hK' _ _ (hK v' w' h1 h2 h3)
end Go.Proofs.YtfjajpnfjjdnpaaGreatDoor

namespace Go.Proofs.YtfjajpnfjjdnpaaGreatDoor
open Go.RowKit Nds Num
structure PB (w:World)(B:Nat)(x y:Bool × Option Addr × Nat × List Nat)(W:World):Prop where
 b:Below w.heap.size w W
 lw:w.heap.size≤B
 lt:B+1<W.heap.size
 x0:W.cell? ⟨B,0,none⟩=some (.bool x.1)
 x1:W.cell? ⟨B,1,none⟩=some (.slice x.2.1 x.2.2.2.length x.2.2.1)
 y0:W.cell? ⟨B+1,0,none⟩=some (.bool y.1)
 y1:W.cell? ⟨B+1,1,none⟩=some (.slice y.2.1 y.2.2.2.length y.2.2.1)
 ux:Us W x.2.1 x.2.2.1 x.2.2.2
 uy:Us W y.2.1 y.2.2.1 y.2.2.2
theorem zgD {a b:Int}:decide (ordI a b<0)=decide (a<b):=by
 unfold ordI;split
 ·rename_i h;rw[decide_eq_true h];rfl
 ·rename_i h;rw[decide_eq_false h];split <;> rfl
theorem ziI {a b:Int}:decide (ordI a b≥0)=decide (b≤a):=by
 unfold ordI;split
 ·rename_i h;rw[decide_eq_false (by omega),decide_eq_false (by omega)]
 ·rename_i h;rw[decide_eq_true (show b≤a by omega)];split <;> rfl
def inH (x h:Int):Bool:=decide (x<h)&&decide (-h≤x)
def inL (c:Cl)(lv:Nat):Bool:=inH c.x (p2 (lv-1))&&inH c.y (p2 (lv-1))
def upL (c:Cl)(lv:Nat):Nat:=if h:lv≤1329 then (if inL c lv=true then lv else upL c (lv+1)) else lv
 termination_by 1330-lv
theorem ziJ {c:Cl}{lv:Nat}(h:inL c lv=true):upL c lv=lv:=by
 by_cases h9:lv≤1329
 ·rw[upL,dif_pos h9,if_pos h]
 ·rw[upL,dif_neg h9]
theorem zkQ {c:Cl}{lv:Nat}(h:¬ lv≤1329):upL c lv=lv:=by
 rw[upL,dif_neg h]
theorem ziK {c:Cl}{lv:Nat}(h:lv≤1329)(h2:inL c lv=false):upL c lv=upL c (lv+1):=by
 rw[upL,dif_pos h,if_neg (by rw[h2];simp)]
def zcx (l:List Cl):Nat:=l.foldl (fun lv c=>upL c lv) 1
theorem zkR (l:List Cl)(c:Cl):zcx (l++[c])=upL c (zcx l):=by
 unfold zcx;rw[List.foldl_append];rfl
theorem zgE {l:List Cv}{k:Nat}(hk:k<l.length):zcx ((l.take (k+1)).map Cv.cl)=upL (cat l k).cl (zcx ((l.take k).map Cv.cl)):=by
 rw[←List.take_append_getElem (l:=l) (i:=k) hk,List.map_append,List.map_cons,List.map_nil,zkR,←ziH hk]
theorem zdS {w:World}{A:Option Addr}{c:Nat}{xs:List Nat}(h:Us w A c xs){g:Nat}(hg:∀o v,w.cell? ⟨g,o,none⟩=some v→∀k,v≠.int .u32 k):0<xs.length→∀a,A=some a→a.block≠g:=fun hx a e he=>by
 obtain⟨b,off,e',hb,hc⟩:=h.at_ hx
 rw[e] at e';cases e';dsimp only at he;subst he;exact hg _ _ (hc 0 hx) _ rfl
structure HX (W:World)(g:Nat)(s:Bool)(A:Option Addr)(c:Nat)(xs:List Nat)(n:Int):Prop where
 box:W.heap[g]?=some (.cells #[.bool s,.slice A xs.length c] 48)
 us:Us W A c xs
 cn:zaE s xs
 v:ival s xs=n
 off:0<xs.length→∀a,A=some a→a.block≠g
theorem HX.lt {W:World}{g:Nat}{s:Bool}{A:Option Addr}{c:Nat}{xs:List Nat}{n:Int}(h:HX W g s A c xs n):g<W.heap.size:=(Array.getElem?_eq_some_iff.1 h.box).1
theorem HX.c0 {W:World}{g:Nat}{s:Bool}{A:Option Addr}{c:Nat}{xs:List Nat}{n:Int}(h:HX W g s A c xs n):W.cell? ⟨g,0,none⟩=some (.bool s):=by
 rw[cell_of_row W g _ _ _ _ h.box];rfl
theorem HX.c1 {W:World}{g:Nat}{s:Bool}{A:Option Addr}{c:Nat}{xs:List Nat}{n:Int}(h:HX W g s A c xs n):W.cell? ⟨g,1,none⟩=some (.slice A xs.length c):=by
 rw[cell_of_row W g _ _ _ _ h.box];rfl
theorem HX.free {W:World}{g:Nat}{s:Bool}{A:Option Addr}{c:Nat}{xs:List Nat}{n:Int}(h:HX W g s A c xs n)(k:Nat):W.frozen? ⟨g,k,none⟩=false:=frozen_of_row W g k _ _ h.box
theorem HX.next {W W1:World}{g:Nat}{s:Bool}{A:Option Addr}{c:Nat}{xs:List Nat}{n:Int}(h:HX W g s A c xs n)(k:Below W.heap.size W W1):HX W1 g s A c xs n :=
 ⟨(k.block g h.lt).trans h.box,h.us.below k,h.cn,h.v,h.off⟩
theorem zgF {W:World}{g:Nat}{s:Bool}{A:Option Addr}{n c:Nat}(h:W.heap[g]?=some (.cells #[.bool s,.slice A n c] 48)):∀o v,W.cell? ⟨g,o,none⟩=some v→∀k,v≠.int .u32 k:=fun o v hv k e=>by
 subst e;rw[cell_of_row W g _ _ _ _ h] at hv
 match o with
 | 0=>simp at hv
 | 1=>simp at hv
 | o+2=>simp at hv
theorem HX.set {W:World}{g:Nat}{s s2:Bool}{A A2:Option Addr}{c c2:Nat}{xs ys:List Nat}{n m:Int}(h:HX W g s A c xs n)(hu:Us W A2 c2 ys)(hc:zaE s2 ys)(hv:ival s2 ys=m) :
  HX ((W.setCell ⟨g,0,none⟩ (.bool s2)).setCell ⟨g,1,none⟩ (.slice A2 ys.length c2)) g s2 A2 c2 ys m:=by
 have ho:=zdS hu (zgF h.box);have hk:∀k,k<W.heap.size→k≠g→((W.setCell ⟨g,0,none⟩ (.bool s2)).setCell ⟨g,1,none⟩ (.slice A2 ys.length c2)).heap[k]?=W.heap[k]?:=fun k _ hk =>
  (Below.heap_setCell _ _ _ _ hk).trans (Below.heap_setCell _ _ _ _ hk)
 exact⟨heap_setCell_same _ g 1 _ _ _ (heap_setCell_same W g 0 _ _ _ h.box),zcF hu hk (by simp[World.setCell]) ho,hc,hv,ho⟩
theorem zch {s:Bool}{xs:List Nat}{n:Nat}(hc:zaE s xs)(hv:ival s xs=p2 n)(hn:n≤1330):xs.length≤50:=by
 refine zbH hc hv 50 ?_;unfold p2;obtain⟨M,hM⟩:∃M,M=50:=⟨_,rfl⟩;rw[←hM,show((2:Int)^n).natAbs=2^n by rw[Int.natAbs_pow];rfl,show(4294967296:Nat)=2^32 by decide,←Nat.pow_mul];exact Nat.pow_lt_pow_right (by decide) (by omega)
theorem zdT (n:Nat)(h:n≤1330):shlI 1 (n:Int)=p2 n:=by
 unfold shlI p2;rw[if_pos (by omega),Int.toNat_natCast,Int.one_mul]
structure WI (w:World)(v:Cv)(g h:Nat)(s:Bool)(A:Option Addr)(c:Nat)(xs:List Nat)(t:Bool)(B:Option Addr)(d:Nat)(ys:List Nat)(n:Int)(W:World):Prop where
 b:Below w.heap.size w W
 lt:w.heap.size<W.heap.size
 bv:CvAt W w.heap.size 0 v
 uv:CvU W v
 p:HX W g s A c xs n
 l:HX W h t B d ys (-n)
theorem WI.next {w:World}{v:Cv}{g h:Nat}{s:Bool}{A:Option Addr}{c:Nat}{xs:List Nat}{t:Bool}{B:Option Addr}{d:Nat}{ys:List Nat}{n:Int}{W W1:World}(k:WI w v g h s A c xs t B d ys n W)(q:Below W.heap.size W W1):WI w v g h s A c xs t B d ys n W1 :=
 ⟨k.b.trans (q.mono k.b.size),Nat.lt_of_lt_of_le k.lt q.size,k.bv.below (q.block _ k.lt),k.uv.below q,k.p.next q,k.l.next q⟩
theorem zvl (x y h:Int):(inH x h&&inH y h)=(decide (-h≤x)&&decide (x<h)&&decide (-h≤y)&&decide (y<h)):=by
 unfold inH;by_cases h1:x<h <;> by_cases h2 : -h≤x <;> by_cases h3:y<h <;> by_cases h4 : -h≤y <;> simp[h1,h2,h3,h4]
theorem zgG (v:Cv)(lv:Nat)(w:World)(h:CvU w v)(h1:v.xs.length≤60000)(h2:v.ys.length≤60000)(hl1:1≤lv)(hl2:lv≤1330) :
  Calls Tryz.prog 144 #[cvv v,.int .i64 (lv:Int)] w fun e w'=>e=.returned (.bool (inL v.cl lv))∧Below w.heap.size w w':=by
 obtain⟨m,rfl⟩:∃m,lv=m+1:=⟨lv-1,by omega⟩;have e0:(((m+1:Nat):Int))=(m:Int)+1:=by omega
 rw[e0];have hv1:=h.1.cap;have hv2:=h.2.1.cap;obtain⟨W,hW⟩:∃W:World,W=w.alloc (.cells #[.bool v.sx,.slice v.ax v.xs.length v.cx,.bool v.sy,.slice v.ay v.ys.length v.cy,.int .u8 v.st] 78):=⟨_,rfl⟩;have hb:Below w.heap.size w W:=by rw[hW];exact(Below.refl _ w).alloc (Nat.le_refl _) _
 have HW:=Hh hW;have HB:=Hh hb;have HLT:=Hh (show w.heap.size<W.heap.size by rw[hW];simp);have HCV:=Hh (show CvAt W w.heap.size 0 v by rw[hW];exact CvAt.new w v _);have HCU:=Hh (h.below hb);obtain⟨R,hR⟩:∃R,R=inL v.cl (m+1):=⟨_,rfl⟩;rw[←hR];have hR':R=(decide (-p2 m≤ival v.sx v.xs)&&decide (ival v.sx v.xs<p2 m)&&decide (-p2 m≤ival v.sy v.ys)&&decide (ival v.sy v.ys<p2 m)):=by
  rw[hR,←zvl];rfl
 have HR:=Hh hR';clear h hb e0 hR hR';obtain⟨ra,hra⟩:∃r,r=ordI (ival v.sx v.xs) (-p2 m):=⟨_,rfl⟩;obtain⟨rb,hrb⟩:∃r,r=ordI (ival v.sx v.xs) (p2 m):=⟨_,rfl⟩;obtain⟨rc,hrc⟩:∃r,r=ordI (ival v.sy v.ys) (-p2 m):=⟨_,rfl⟩;obtain⟨rd,hrd⟩:∃r,r=ordI (ival v.sy v.ys) (p2 m):=⟨_,rfl⟩;have ea:decide (ra≥0)=decide (-p2 m≤ival v.sx v.xs):=by rw[hra,ziI]
 have eb:decide (rb<0)=decide (ival v.sx v.xs<p2 m):=by rw[hrb,zgD]
 have ec:decide (rc≥0)=decide (-p2 m≤ival v.sy v.ys):=by rw[hrc,ziI]
 have ed:decide (rd<0)=decide (ival v.sy v.ys<p2 m):=by rw[hrd,zgD]
 rw[←ea,←eb,←ec,←ed] at HR;have HRA:=Hh hra;have HRB:=Hh hrb;have HRC:=Hh hrc;have HRD:=Hh hrd;clear hra hrb hrc hrd ea eb ec ed;have q0:True:=trivial;by_cases ta:ra≥0
 ·have xa:decide (ra≥0)=true:=decide_eq_true ta;by_cases tb:rb<0
  ·have xb:decide (rb<0)=true:=decide_eq_true tb;by_cases tc:rc≥0
   ·have xc:decide (rc≥0)=true:=decide_eq_true tc;rw[xa,xb,xc] at HR;clear ta tb tc;go_enter Tryz.func144,Tryz.ntmps144;go_wp2_with (first
     | (go_at_call 109;go_loud (rw[←HW.out];refine(zbL _ _).mono ?_;rintro e w5 ⟨A5,c5,s5,r5,rfl,u5,k5,v5,b5⟩;rw[zdT m (by omega)] at v5;have U5:=Hh u5;have K5:=Hh k5;have V5:=Hh v5;have B5:=Hh b5;have hg5:=heap_alloc_new w5 (.cells #[.bool s5,.slice A5 r5.length c5] 48);have bl5:=(Below.refl w5.heap.size w5).alloc (Nat.le_refl _) (.cells #[.bool s5,.slice A5 r5.length c5] 48);have H5:=Hh (show HX (w5.alloc (.cells #[.bool s5,.slice A5 r5.length c5] 48)) w5.heap.size s5 A5 c5 r5 (p2 m) from⟨hg5,u5.below bl5,k5,v5,fun hx a e=>by have:=zbQ u5 hx a e;omega⟩);have BL5:=Hh bl5;clear u5 k5 v5 b5 hg5 bl5))
     | (go_at_call 108;go_loud (refine(zbB s5 A5 c5 r5 _ H5.out.us (by have:=zch K5.out V5.out (by omega);omega)).mono ?_;rintro e w6 ⟨A6,c6,s6,r6,rfl,u6,k6,v6,b6⟩;rw[V5.out] at v6;have hg6:=heap_alloc_new w6 (.cells #[.bool s6,.slice A6 r6.length c6] 48);have bl6:=(Below.refl w6.heap.size w6).alloc (Nat.le_refl _) (.cells #[.bool s6,.slice A6 r6.length c6] 48);have b56:=BL5.out.trans (b6.mono BL5.out.size) |>.trans (bl6.mono (Nat.le_trans BL5.out.size b6.size));have S1:=Hh (show WI w v w5.heap.size w6.heap.size s5 A5 c5 r5 s6 A6 c6 r6 (p2 m) (w6.alloc (.cells #[.bool s6,.slice A6 r6.length c6] 48)) from⟨HB.out.trans ((B5.out.mono HB.out.size).trans (b56.mono (Nat.le_trans HB.out.size B5.out.size))),Nat.lt_of_lt_of_le HLT.out (Nat.le_trans B5.out.size b56.size),(HCV.out.below (B5.out.block _ HLT.out)).below (b56.block _ (Nat.lt_of_lt_of_le HLT.out B5.out.size)),(HCU.out.below B5.out).below b56,(H5.out.next b6).next bl6,⟨hg6,u6.below bl6,k6,v6,fun hx a e=>by have:=zbQ u6 hx a e;omega⟩⟩);have HL56:=Hh (And.intro (zch K5.out V5.out (by omega)) (show r6.length≤50 from by have h3:=zch K5.out V5.out (by omega);have h4:=zdx (s:=s5) U5.out.1 h3;rw[V5.out] at h4;exact zbH k6 v6 50 (by rw[Int.natAbs_neg];exact h4)));clear u6 k6 v6 b6 hg6 bl6 b56;obtain⟨f1,f2,f3,f4,f5⟩:=S1.out.bv;have p1:=S1.out.p.c0;have p2_:=S1.out.p.c1;have l1:=S1.out.l.c0;have l2:=S1.out.l.c1))
     | (have _t:=q0;go_at_call 106;clear _t;go_loud (refine(zaf v.sx s6 v.ax A6 v.cx c6 v.xs r6 _ S1.out.uv.1 S1.out.l.us h1 (by have:=HL56.out.2;omega)).mono ?_;rintro e w19 ⟨rfl,b9⟩;rw[S1.out.l.v,←HRA.out];have S2:=Hh (S1.out.next b9);clear b9;obtain⟨f1,f2,f3,f4,f5⟩:=S2.out.bv;have p1:=S2.out.p.c0;have p2_:=S2.out.p.c1;have l1:=S2.out.l.c0;have l2:=S2.out.l.c1;have q1:=q0;clear q0))
     | (have _t:=q1;go_at_call 106;clear _t;go_loud (refine(zaf v.sx s5 v.ax A5 v.cx c5 v.xs r5 _ S2.out.uv.1 S2.out.p.us h1 (by have:=HL56.out.1;omega)).mono ?_;rintro e w29 ⟨rfl,b9⟩;rw[S2.out.p.v,←HRB.out];have S3:=Hh (S2.out.next b9);clear b9;obtain⟨f1,f2,f3,f4,f5⟩:=S3.out.bv;have p1:=S3.out.p.c0;have p2_:=S3.out.p.c1;have l1:=S3.out.l.c0;have l2:=S3.out.l.c1;have q2:=q1;clear q1))
     | (have _t:=q2;go_at_call 106;clear _t;go_loud (refine(zaf v.sy s6 v.ay A6 v.cy c6 v.ys r6 _ S3.out.uv.2.1 S3.out.l.us h2 (by have:=HL56.out.2;omega)).mono ?_;rintro e w39 ⟨rfl,b9⟩;rw[S3.out.l.v,←HRC.out];have S4:=Hh (S3.out.next b9);clear b9;obtain⟨f1,f2,f3,f4,f5⟩:=S4.out.bv;have p1:=S4.out.p.c0;have p2_:=S4.out.p.c1;have l1:=S4.out.l.c0;have l2:=S4.out.l.c1;have q3:=q2;clear q2))
     | (have _t:=q3;go_at_call 106;clear _t;go_loud (refine(zaf v.sy s5 v.ay A5 v.cy c5 v.ys r5 _ S4.out.uv.2.1 S4.out.p.us h2 (by have:=HL56.out.1;omega)).mono ?_;rintro e w49 ⟨rfl,b9⟩;rw[S4.out.p.v,←HRD.out];have S5:=Hh (S4.out.next b9);clear b9;obtain⟨f1,f2,f3,f4,f5⟩:=S5.out.bv;have p1:=S5.out.p.c0;have p2_:=S5.out.p.c1;have l1:=S5.out.l.c0;have l2:=S5.out.l.c1;have q4:=q3;clear q3)))
    go_ret;refine⟨?_,S5.out.b⟩;rw[HR.out];rfl
   ·have xc:decide (rc≥0)=false:=decide_eq_false tc;rw[xa,xb,xc] at HR;clear ta tb tc;go_enter Tryz.func144,Tryz.ntmps144;go_wp2_with (first
     | (go_at_call 109;go_loud (rw[←HW.out];refine(zbL _ _).mono ?_;rintro e w5 ⟨A5,c5,s5,r5,rfl,u5,k5,v5,b5⟩;rw[zdT m (by omega)] at v5;have U5:=Hh u5;have K5:=Hh k5;have V5:=Hh v5;have B5:=Hh b5;have hg5:=heap_alloc_new w5 (.cells #[.bool s5,.slice A5 r5.length c5] 48);have bl5:=(Below.refl w5.heap.size w5).alloc (Nat.le_refl _) (.cells #[.bool s5,.slice A5 r5.length c5] 48);have H5:=Hh (show HX (w5.alloc (.cells #[.bool s5,.slice A5 r5.length c5] 48)) w5.heap.size s5 A5 c5 r5 (p2 m) from⟨hg5,u5.below bl5,k5,v5,fun hx a e=>by have:=zbQ u5 hx a e;omega⟩);have BL5:=Hh bl5;clear u5 k5 v5 b5 hg5 bl5))
     | (go_at_call 108;go_loud (refine(zbB s5 A5 c5 r5 _ H5.out.us (by have:=zch K5.out V5.out (by omega);omega)).mono ?_;rintro e w6 ⟨A6,c6,s6,r6,rfl,u6,k6,v6,b6⟩;rw[V5.out] at v6;have hg6:=heap_alloc_new w6 (.cells #[.bool s6,.slice A6 r6.length c6] 48);have bl6:=(Below.refl w6.heap.size w6).alloc (Nat.le_refl _) (.cells #[.bool s6,.slice A6 r6.length c6] 48);have b56:=BL5.out.trans (b6.mono BL5.out.size) |>.trans (bl6.mono (Nat.le_trans BL5.out.size b6.size));have S1:=Hh (show WI w v w5.heap.size w6.heap.size s5 A5 c5 r5 s6 A6 c6 r6 (p2 m) (w6.alloc (.cells #[.bool s6,.slice A6 r6.length c6] 48)) from⟨HB.out.trans ((B5.out.mono HB.out.size).trans (b56.mono (Nat.le_trans HB.out.size B5.out.size))),Nat.lt_of_lt_of_le HLT.out (Nat.le_trans B5.out.size b56.size),(HCV.out.below (B5.out.block _ HLT.out)).below (b56.block _ (Nat.lt_of_lt_of_le HLT.out B5.out.size)),(HCU.out.below B5.out).below b56,(H5.out.next b6).next bl6,⟨hg6,u6.below bl6,k6,v6,fun hx a e=>by have:=zbQ u6 hx a e;omega⟩⟩);have HL56:=Hh (And.intro (zch K5.out V5.out (by omega)) (show r6.length≤50 from by have h3:=zch K5.out V5.out (by omega);have h4:=zdx (s:=s5) U5.out.1 h3;rw[V5.out] at h4;exact zbH k6 v6 50 (by rw[Int.natAbs_neg];exact h4)));clear u6 k6 v6 b6 hg6 bl6 b56;obtain⟨f1,f2,f3,f4,f5⟩:=S1.out.bv;have p1:=S1.out.p.c0;have p2_:=S1.out.p.c1;have l1:=S1.out.l.c0;have l2:=S1.out.l.c1))
     | (have _t:=q0;go_at_call 106;clear _t;go_loud (refine(zaf v.sx s6 v.ax A6 v.cx c6 v.xs r6 _ S1.out.uv.1 S1.out.l.us h1 (by have:=HL56.out.2;omega)).mono ?_;rintro e w19 ⟨rfl,b9⟩;rw[S1.out.l.v,←HRA.out];have S2:=Hh (S1.out.next b9);clear b9;obtain⟨f1,f2,f3,f4,f5⟩:=S2.out.bv;have p1:=S2.out.p.c0;have p2_:=S2.out.p.c1;have l1:=S2.out.l.c0;have l2:=S2.out.l.c1;have q1:=q0;clear q0))
     | (have _t:=q1;go_at_call 106;clear _t;go_loud (refine(zaf v.sx s5 v.ax A5 v.cx c5 v.xs r5 _ S2.out.uv.1 S2.out.p.us h1 (by have:=HL56.out.1;omega)).mono ?_;rintro e w29 ⟨rfl,b9⟩;rw[S2.out.p.v,←HRB.out];have S3:=Hh (S2.out.next b9);clear b9;obtain⟨f1,f2,f3,f4,f5⟩:=S3.out.bv;have p1:=S3.out.p.c0;have p2_:=S3.out.p.c1;have l1:=S3.out.l.c0;have l2:=S3.out.l.c1;have q2:=q1;clear q1))
     | (have _t:=q2;go_at_call 106;clear _t;go_loud (refine(zaf v.sy s6 v.ay A6 v.cy c6 v.ys r6 _ S3.out.uv.2.1 S3.out.l.us h2 (by have:=HL56.out.2;omega)).mono ?_;rintro e w39 ⟨rfl,b9⟩;rw[S3.out.l.v,←HRC.out];have S4:=Hh (S3.out.next b9);clear b9;obtain⟨f1,f2,f3,f4,f5⟩:=S4.out.bv;have p1:=S4.out.p.c0;have p2_:=S4.out.p.c1;have l1:=S4.out.l.c0;have l2:=S4.out.l.c1;have q3:=q2;clear q2)))
    go_ret;refine⟨?_,S4.out.b⟩;rw[HR.out];rfl
  ·have xb:decide (rb<0)=false:=decide_eq_false tb;rw[xa,xb] at HR;clear ta tb;go_enter Tryz.func144,Tryz.ntmps144;go_wp2_with (first
    | (go_at_call 109;go_loud (rw[←HW.out];refine(zbL _ _).mono ?_;rintro e w5 ⟨A5,c5,s5,r5,rfl,u5,k5,v5,b5⟩;rw[zdT m (by omega)] at v5;have U5:=Hh u5;have K5:=Hh k5;have V5:=Hh v5;have B5:=Hh b5;have hg5:=heap_alloc_new w5 (.cells #[.bool s5,.slice A5 r5.length c5] 48);have bl5:=(Below.refl w5.heap.size w5).alloc (Nat.le_refl _) (.cells #[.bool s5,.slice A5 r5.length c5] 48);have H5:=Hh (show HX (w5.alloc (.cells #[.bool s5,.slice A5 r5.length c5] 48)) w5.heap.size s5 A5 c5 r5 (p2 m) from⟨hg5,u5.below bl5,k5,v5,fun hx a e=>by have:=zbQ u5 hx a e;omega⟩);have BL5:=Hh bl5;clear u5 k5 v5 b5 hg5 bl5))
    | (go_at_call 108;go_loud (refine(zbB s5 A5 c5 r5 _ H5.out.us (by have:=zch K5.out V5.out (by omega);omega)).mono ?_;rintro e w6 ⟨A6,c6,s6,r6,rfl,u6,k6,v6,b6⟩;rw[V5.out] at v6;have hg6:=heap_alloc_new w6 (.cells #[.bool s6,.slice A6 r6.length c6] 48);have bl6:=(Below.refl w6.heap.size w6).alloc (Nat.le_refl _) (.cells #[.bool s6,.slice A6 r6.length c6] 48);have b56:=BL5.out.trans (b6.mono BL5.out.size) |>.trans (bl6.mono (Nat.le_trans BL5.out.size b6.size));have S1:=Hh (show WI w v w5.heap.size w6.heap.size s5 A5 c5 r5 s6 A6 c6 r6 (p2 m) (w6.alloc (.cells #[.bool s6,.slice A6 r6.length c6] 48)) from⟨HB.out.trans ((B5.out.mono HB.out.size).trans (b56.mono (Nat.le_trans HB.out.size B5.out.size))),Nat.lt_of_lt_of_le HLT.out (Nat.le_trans B5.out.size b56.size),(HCV.out.below (B5.out.block _ HLT.out)).below (b56.block _ (Nat.lt_of_lt_of_le HLT.out B5.out.size)),(HCU.out.below B5.out).below b56,(H5.out.next b6).next bl6,⟨hg6,u6.below bl6,k6,v6,fun hx a e=>by have:=zbQ u6 hx a e;omega⟩⟩);have HL56:=Hh (And.intro (zch K5.out V5.out (by omega)) (show r6.length≤50 from by have h3:=zch K5.out V5.out (by omega);have h4:=zdx (s:=s5) U5.out.1 h3;rw[V5.out] at h4;exact zbH k6 v6 50 (by rw[Int.natAbs_neg];exact h4)));clear u6 k6 v6 b6 hg6 bl6 b56;obtain⟨f1,f2,f3,f4,f5⟩:=S1.out.bv;have p1:=S1.out.p.c0;have p2_:=S1.out.p.c1;have l1:=S1.out.l.c0;have l2:=S1.out.l.c1))
    | (have _t:=q0;go_at_call 106;clear _t;go_loud (refine(zaf v.sx s6 v.ax A6 v.cx c6 v.xs r6 _ S1.out.uv.1 S1.out.l.us h1 (by have:=HL56.out.2;omega)).mono ?_;rintro e w19 ⟨rfl,b9⟩;rw[S1.out.l.v,←HRA.out];have S2:=Hh (S1.out.next b9);clear b9;obtain⟨f1,f2,f3,f4,f5⟩:=S2.out.bv;have p1:=S2.out.p.c0;have p2_:=S2.out.p.c1;have l1:=S2.out.l.c0;have l2:=S2.out.l.c1;have q1:=q0;clear q0))
    | (have _t:=q1;go_at_call 106;clear _t;go_loud (refine(zaf v.sx s5 v.ax A5 v.cx c5 v.xs r5 _ S2.out.uv.1 S2.out.p.us h1 (by have:=HL56.out.1;omega)).mono ?_;rintro e w29 ⟨rfl,b9⟩;rw[S2.out.p.v,←HRB.out];have S3:=Hh (S2.out.next b9);clear b9;obtain⟨f1,f2,f3,f4,f5⟩:=S3.out.bv;have p1:=S3.out.p.c0;have p2_:=S3.out.p.c1;have l1:=S3.out.l.c0;have l2:=S3.out.l.c1;have q2:=q1;clear q1)))
   go_ret;refine⟨?_,S3.out.b⟩;rw[HR.out];rfl
 ·have xa:decide (ra≥0)=false:=decide_eq_false ta;rw[xa] at HR;clear ta;go_enter Tryz.func144,Tryz.ntmps144;go_wp2_with (first
   | (go_at_call 109;go_loud (rw[←HW.out];refine(zbL _ _).mono ?_;rintro e w5 ⟨A5,c5,s5,r5,rfl,u5,k5,v5,b5⟩;rw[zdT m (by omega)] at v5;have U5:=Hh u5;have K5:=Hh k5;have V5:=Hh v5;have B5:=Hh b5;have hg5:=heap_alloc_new w5 (.cells #[.bool s5,.slice A5 r5.length c5] 48);have bl5:=(Below.refl w5.heap.size w5).alloc (Nat.le_refl _) (.cells #[.bool s5,.slice A5 r5.length c5] 48);have H5:=Hh (show HX (w5.alloc (.cells #[.bool s5,.slice A5 r5.length c5] 48)) w5.heap.size s5 A5 c5 r5 (p2 m) from⟨hg5,u5.below bl5,k5,v5,fun hx a e=>by have:=zbQ u5 hx a e;omega⟩);have BL5:=Hh bl5;clear u5 k5 v5 b5 hg5 bl5))
   | (go_at_call 108;go_loud (refine(zbB s5 A5 c5 r5 _ H5.out.us (by have:=zch K5.out V5.out (by omega);omega)).mono ?_;rintro e w6 ⟨A6,c6,s6,r6,rfl,u6,k6,v6,b6⟩;rw[V5.out] at v6;have hg6:=heap_alloc_new w6 (.cells #[.bool s6,.slice A6 r6.length c6] 48);have bl6:=(Below.refl w6.heap.size w6).alloc (Nat.le_refl _) (.cells #[.bool s6,.slice A6 r6.length c6] 48);have b56:=BL5.out.trans (b6.mono BL5.out.size) |>.trans (bl6.mono (Nat.le_trans BL5.out.size b6.size));have S1:=Hh (show WI w v w5.heap.size w6.heap.size s5 A5 c5 r5 s6 A6 c6 r6 (p2 m) (w6.alloc (.cells #[.bool s6,.slice A6 r6.length c6] 48)) from⟨HB.out.trans ((B5.out.mono HB.out.size).trans (b56.mono (Nat.le_trans HB.out.size B5.out.size))),Nat.lt_of_lt_of_le HLT.out (Nat.le_trans B5.out.size b56.size),(HCV.out.below (B5.out.block _ HLT.out)).below (b56.block _ (Nat.lt_of_lt_of_le HLT.out B5.out.size)),(HCU.out.below B5.out).below b56,(H5.out.next b6).next bl6,⟨hg6,u6.below bl6,k6,v6,fun hx a e=>by have:=zbQ u6 hx a e;omega⟩⟩);have HL56:=Hh (And.intro (zch K5.out V5.out (by omega)) (show r6.length≤50 from by have h3:=zch K5.out V5.out (by omega);have h4:=zdx (s:=s5) U5.out.1 h3;rw[V5.out] at h4;exact zbH k6 v6 50 (by rw[Int.natAbs_neg];exact h4)));clear u6 k6 v6 b6 hg6 bl6 b56;obtain⟨f1,f2,f3,f4,f5⟩:=S1.out.bv;have p1:=S1.out.p.c0;have p2_:=S1.out.p.c1;have l1:=S1.out.l.c0;have l2:=S1.out.l.c1))
   | (have _t:=q0;go_at_call 106;clear _t;go_loud (refine(zaf v.sx s6 v.ax A6 v.cx c6 v.xs r6 _ S1.out.uv.1 S1.out.l.us h1 (by have:=HL56.out.2;omega)).mono ?_;rintro e w19 ⟨rfl,b9⟩;rw[S1.out.l.v,←HRA.out];have S2:=Hh (S1.out.next b9);clear b9;obtain⟨f1,f2,f3,f4,f5⟩:=S2.out.bv;have p1:=S2.out.p.c0;have p2_:=S2.out.p.c1;have l1:=S2.out.l.c0;have l2:=S2.out.l.c1;have q1:=q0;clear q0)))
  go_ret;refine⟨?_,S2.out.b⟩;rw[HR.out];rfl
end Go.Proofs.YtfjajpnfjjdnpaaGreatDoor

namespace Go.Proofs.YtfjajpnfjjdnpaaGreatDoor
open Go.RowKit Nds
theorem ziL (W:World)(g:Nat)(x:Nd)(hx:x.wf)(hg:W.heap.size=g):Ns (W.alloc (.cells #[.int .i64 x.lv,.int .i64 x.a,.int .i64 x.b,.int .i64 x.c,.int .i64 x.d] 70)) (some ⟨g,0,none⟩) 1 [x]:=by
 subst hg;refine⟨by simpa using hx,by simp,by simp[maxLen],fun _=>⟨_,0,rfl,by simp,fun i hi=>?_⟩⟩;have h0:i=0:=by simpa using hi
 subst h0;exact NdAt.new W x _
structure Ky (P:Nat→Prop)(w w':World):Prop where
 os:w'.os=w.os
 tape:w'.tape=w.tape
 output:w'.output=w.output
 size:w.heap.size≤w'.heap.size
 block:∀k,k<w.heap.size→¬ P k→w'.heap[k]?=w.heap[k]?
theorem Ky.refl (P:Nat→Prop)(w:World):Ky P w w:=⟨rfl,rfl,rfl,Nat.le_refl _,fun _ _ _=>rfl⟩
theorem Ky.trans {P Q:Nat→Prop}{a b c:World}(h:Ky P a b)(k:Ky Q b c)(hQ:∀i,i<a.heap.size→Q i→P i):Ky P a c :=
 ⟨k.os.trans h.os,k.tape.trans h.tape,k.output.trans h.output,Nat.le_trans h.size k.size,fun i hi hn=>(k.block i (Nat.lt_of_lt_of_le hi h.size) (fun hq=>hn (hQ i hi hq))).trans (h.block i hi hn)⟩
theorem Ky.gb {P:Nat→Prop}{a b c:World}{r:Option Nat}(h:Ky P a b)(k:b.grownBy c r)(hr:∀i,i<a.heap.size→r=some i→P i):Ky P a c :=
 ⟨k.os.trans h.os,k.tape.trans h.tape,k.output.trans h.output,Nat.le_trans h.size k.size,fun i hi hn=>(k.block i (Nat.lt_of_lt_of_le hi h.size) (fun hq=>hn (hr i hi hq.symm))).trans (h.block i hi hn)⟩
theorem Ky.alloc {P:Nat→Prop}{a b:World}(h:Ky P a b)(o:Obj):Ky P a (b.alloc o):=h.gb (World.grownBy_alloc b o none) (fun _ _ e=>by cases e)
theorem Ky.below {P:Nat→Prop}{a b c:World}(h:Ky P a b)(k:Below b.heap.size b c):Ky P a c :=
 ⟨k.os.trans h.os,k.tape.trans h.tape,k.output.trans h.output,Nat.le_trans h.size k.size,fun i hi hn=>(k.block i (Nat.lt_of_lt_of_le hi h.size)).trans (h.block i hi hn)⟩
theorem Ky.set {P:Nat→Prop}{a b:World}(h:Ky P a b)(p:Addr)(hp:p.block<a.heap.size→P p.block)(u:Value):Ky P a (b.setCell p u) :=
 ⟨h.os,h.tape,h.output,by simpa [World.setCell] using h.size,fun i hi hn=>(Below.heap_setCell _ _ _ _ (fun e=>hn (by subst e;exact hp hi))).trans (h.block i hi hn)⟩
theorem Ky.to {P:Nat→Prop}{a b:World}(h:Ky P a b){B:Nat}(hB:B≤a.heap.size)(hP:∀k,P k→B≤k):Below B a b :=
 ⟨h.os,h.tape,h.output,h.size,fun k hk=>h.block k (Nat.lt_of_lt_of_le hk hB) (fun hp=>Nat.not_lt.2 (hP k hp) hk)⟩
theorem Ky.nd {P:Nat→Prop}{w w':World}(h:Ky P w w'){b o:Nat}{x:Nd}(hx:NdAt w b o x)(hb:b<w.heap.size)(hp:¬ P b):NdAt w' b o x:=hx.below (h.block b hb hp)
def mix (x y:Nd)(k:Nat):Nd:=⟨x.lv,if 0<k then y.a else x.a,if 1<k then y.b else x.b,if 2<k then y.c else x.c,if 3<k then y.d else x.d⟩
theorem ziM {x y:Nd}(h:x.lv=y.lv):mix x y 4=y:=by
 unfold mix;rw[h];rfl
theorem zud (x y:Nd)(k:Nat){i:Nat}(hi:i<4):(mix x y k).kid i=if i<k then y.kid i else x.kid i:=by
 match i,hi with
 | 0,_=>rfl
 | 1,_=>rfl
 | 2,_=>rfl
 | 3,_=>rfl
def zbk (w:World)(g:Nat)(x:Nd):Prop:=w.heap[g]?=some (.cells #[.int .i64 x.lv,.int .i64 x.a,.int .i64 x.b,.int .i64 x.c,.int .i64 x.d] 70)
theorem zbk.lt {w:World}{g:Nat}{x:Nd}(h:zbk w g x):g<w.heap.size:=(Array.getElem?_eq_some_iff.1 h).1
theorem zbk.at_ {w:World}{g:Nat}{x:Nd}(h:zbk w g x):NdAt w g 0 x:=by
 refine⟨?_,?_,?_,?_,?_⟩ <;> (rw[cell_of_row w g _ _ _ (0,0) h];rfl)
theorem zbk.free {w:World}{g:Nat}{x:Nd}(h:zbk w g x)(k:Nat):w.frozen? ⟨g,k,none⟩=false:=frozen_of_row w g k _ _ h
theorem zbk.new (w:World)(x:Nd):zbk (w.alloc (.cells #[.int .i64 x.lv,.int .i64 x.a,.int .i64 x.b,.int .i64 x.c,.int .i64 x.d] 70)) w.heap.size x:=heap_alloc_new w _
theorem zbk.stay {w w':World}{g:Nat}{x:Nd}(h:zbk w g x)(hb:w'.heap[g]?=w.heap[g]?):zbk w' g x:=hb.trans h
theorem zbk.setKid {w:World}{g:Nat}{x y:Nd}{k:Nat}(h:zbk w g (mix x y k))(hk:k<4){o:Nat}(ho:o=1+k){u:Int}(hu:u=y.kid k):zbk (w.setCell ⟨g,o,none⟩ (.int .i64 u)) g (mix x y (k+1)):=by
 subst ho;subst hu;refine(heap_setCell_same w g (1+k) _ _ _ h).trans ?_
 match k,hk with
 | 0,_=>rfl
 | 1,_=>rfl
 | 2,_=>rfl
 | 3,_=>rfl
def OwnD (w:World)(base g n:Nat)(ds:List Nat):Prop :=
 ds.length=n∧w.ownsRow base 3 1 (.slice (some ⟨g,0,none⟩) n n) n (ds.map fun k:Nat=>Value.int .i64 (k:Int))
theorem OwnD.cell {w:World}{base g n:Nat}{ds:List Nat}(h:OwnD w base g n ds){k:Nat}(hk:k<n):w.cell? ⟨g,k,none⟩=some (.int .i64 ((ds.getD k 0:Nat):Int)):=by
 have hl:k<ds.length:=by have:=h.1;omega
 rw[h.2.cellAt k (by omega),List.getElem?_map,List.getD_eq_getElem?_getD,List.getElem?_eq_getElem hl];rfl
theorem OwnD.free {w:World}{base g n:Nat}{ds:List Nat}(h:OwnD w base g n ds)(k:Nat):w.frozen? ⟨g,k,none⟩=false:=h.2.frozenAt k
theorem OwnD.set {w:World}{base g n:Nat}{ds:List Nat}(h:OwnD w base g n ds)(k u:Nat):OwnD (w.setCell ⟨g,k,none⟩ (.int .i64 (u:Int))) base g n (ds.set k u):=by
 refine⟨by simpa using h.1,?_⟩;rw[List.map_set];exact(h.2.stored k _).1
theorem zwi (n:Nat):(madeCells (Value.cells (.int .i64 0)) (n*1)).toList=(List.replicate n 0).map (fun k:Nat=>Value.int .i64 (k:Int)):=by
 rw[Nat.mul_one];refine List.ext_getElem (by simp[madeCells]) fun i h1 h2=>?_;simp[madeCells,Value.cells,Nat.mod_one]
theorem OwnD.made {w:World}{base g n:Nat}(h:w.ownsRow base 3 1 (.slice (some ⟨g,0,none⟩) n n) n (madeCells (Value.cells (.int .i64 0)) (n*1)).toList):OwnD w base g n (List.replicate n 0) :=
 ⟨by simp,by rw[←zwi];exact h⟩
theorem OwnD.lt {w:World}{base g n:Nat}{ds:List Nat}(h:OwnD w base g n ds):base≤g∧g<w.heap.size:=h.2.lt g rfl
theorem OwnD.gbr {w w':World}{base g n:Nat}{ds:List Nat}{row:Option Nat}(h:OwnD w base g n ds)(hg:w.grownBy w' row)(hv:row≠some g):OwnD w' base g n ds:=⟨h.1,h.2.kept hg (.inr (fun e=>hv e.symm))⟩
theorem zbD (w:World)(p:Addr)(u:Value):w.grownBy (w.setCell p u) (some p.block) :=
 ⟨rfl,rfl,rfl,by simp[World.setCell],fun i _ hi=>Below.heap_setCell _ _ _ _ (fun e=>hi (by rw[e]))⟩
theorem zgH (w:World)(base:Nat):OwnN w base (.slice none 0 0) []:=⟨by simp,World.ownsRow_nil w base _ 5⟩
theorem zpf {v:Value}{r:Option Nat}(h:∀k,v.ownBlock=some k→r≠some k):v.ownBlock=none∨v.ownBlock≠r:=by
 cases hv:v.ownBlock with
 | none=>exact .inl rfl
 | some k=>exact .inr (fun e=>h k hv e.symm)
theorem znt (A:Option Addr)(c n:Nat)(l:List Nd)(p k:Nat)(w:World)(h:Ns w A c l)(hn:l.length=n)(hl:zac l=true)(hp:p<n)(hlv:1<(at_ l p).lv)(hk:k<4) :
  Calls Tryz.prog 141 #[.slice A n c,.int .i64 ((p:Int)+1),.int .i64 (k:Int)] w fun e w'=>e=.returned (.int .i64 (innK l (at_ l p) k))∧w=w':=by
 have hcap:=h.cap;rw[hn] at hcap;have hpl:p<l.length:=by omega
 obtain⟨b,off,rfl,hb,hc⟩:=h.at_ (by omega)
 have hyc:=(hc p hpl).kid hk;have hfk:=zaj (zad hl hpl) hk;obtain⟨R,hR⟩:∃R,R=innK l (at_ l p) k:=⟨_,rfl⟩;rw[←hR];obtain⟨y,hy⟩:∃y,y=(at_ l p).kid k:=⟨_,rfl⟩;unfold innK at hR;rw[←hy] at hR hfk hyc;have i1:(p:Int)<(n:Int):=by omega
 have i2:(k:Int)<4:=by omega
 rcases zaA (by omega) hfk with rfl|⟨r,rfl,hr,_⟩
 ·rw[if_pos rfl] at hR;subst hR;clear hy hfk hn hl hlv hc h;go_enter Tryz.func141,Tryz.ntmps141;go_wp2_with fail;go_ret;exact⟨rfl,rfl⟩
 ·rw[if_neg (by omega),show((r:Int)+1).toNat-1=r by omega] at hR;obtain⟨k2,hk2⟩:∃k2,k2=3-k:=⟨_,rfl⟩;have hzc:=(hc r hr).kid (q:=k2) (by omega);rw[←hk2] at hR;rw[←hR] at hzc;have t1:((r:Int)+1==0)=false:=beq_eq_false_iff_ne.2 (by omega);have e3:(3:Int)-(k:Int)=(k2:Int):=by omega
  have i3:(r:Int)<(n:Int):=by omega
  have i4:(k2:Int)<4:=by omega
  have HE:=Hh e3;clear hy hfk hn hl hlv hc hk2 hR h hr;go_enter Tryz.func141,Tryz.ntmps141;go_wp2_with fail;go_ret;exact⟨rfl,rfl⟩
theorem zez (A:Option Addr)(c n:Nat)(l:List Nd)(x:Nd)(w:World)(h:Ns w A c l)(hn:l.length=n)(hx:x.wf) :
  Calls Tryz.prog 142 #[.slice A n c,ndv x] w fun e w'=>e=.returned (.int .i64 ((fnd l x:Nat):Int))∧Below w.heap.size w w':=by
 have hcap:=h.cap;rw[hn] at hcap;have hb:=(Below.refl w.heap.size w).alloc (Nat.le_refl _) (.cells #[.int .i64 x.lv,.int .i64 x.a,.int .i64 x.b,.int .i64 x.c,.int .i64 x.d] 70);have HB:=Hh hb;have HNL:=Hh (h.below hb);have HL:=Hh hn;have HWX:=Hh hx;obtain⟨R,hR⟩:∃R,R=fnd l x:=⟨_,rfl⟩;rw[←hR];have HR:=Hh hR;have hbx:=NdAt.new w x 70;clear h hn hb hx hR;go_enter Tryz.func142,Tryz.ntmps142;go_wp2_with fail;obtain⟨f1,f2,f3,f4,f5⟩:=hbx;generalize hg:w.heap.size=g at *;generalize hW:w.alloc _=W at *;have HG:=Hh hg;clear hW hg;go_loopw [5] (fun i wr=>∃(k nd:Nat),wr=W.drewN nd∧k≤n∧i=.int .i64 k∧∀j,j<k→at_ l j≠x) (fun i _=>n-(intOf i).toNat)
 case atStart=>exact⟨0,0,rfl,by omega,rfl,fun j hj=>by omega⟩
 case round =>
  obtain⟨k,nd,rfl,hk,rfl,hall⟩:=hrel;have HA:=Hh hall;clear hall;by_cases hlt:k<n
  ·obtain⟨b,off,rfl,hb,hc⟩:=HNL.out.at_ (by rw[HL.out];omega)
   obtain⟨c1,c2,c3,c4,c5⟩:=hc k (by rw[HL.out];exact hlt);have hwy:=HNL.out.wf (i:=k) (by rw[HL.out];exact hlt);clear hc;obtain⟨y,hy⟩:∃y,y=at_ l k:=⟨_,rfl⟩
   rw[←hy] at c1 c2 c3 c4 c5 hwy;have HY:=Hh hy;have hq:=zrG y x hwy HWX.out;have i1:(k:Int)<(n:Int):=by omega
   have i2:(0:Int)≤(k:Int):=by omega
   clear hy hwy;by_cases hxy:y=x
   ·have HXY:=Hh hxy;rw[decide_eq_true hxy] at hq;clear hxy;go_wp2_with fail;go_quiet (fail);go_wp2_with fail;go_ret;refine⟨?_,zcr (by rw[HG.out];exact HB.out) _⟩;rw[HR.out,ziA (i:=k) (by rw[HL.out];exact hlt) (by rw[←HY.out];exact HXY.out) HA.out];simp
   ·have HXY:=Hh hxy;rw[decide_eq_false hxy] at hq;clear hxy;go_wp2_with fail;go_quiet (fail);go_wp2_with fail;go_roundw
    case rel =>
     refine⟨k+1,_,rfl,by omega,by go_num,fun j hj=>?_⟩;rcases Nat.lt_or_ge j k with h1|h1
     ·exact HA.out j h1
     ·rw[show j=k by omega,←HY.out];exact HXY.out
    case measure=>simp[intOf];omega
  ·go_wp2_with fail;go_ret;refine⟨?_,zcr (by rw[HG.out];exact HB.out) _⟩;rw[HR.out,zlW fun j hj=>HA.out j (by rw[HL.out] at hj;omega)];rfl
theorem zpg (A B:Option Addr)(c d n p:Nat)(l m:List Nd)(w:World)(h:Ns w A c l)(k:Ns w B d m)(hn:l.length=n)(hp:m.length=p) :
  Calls Tryz.prog 25 #[.agg #[.slice A n c],.agg #[.slice B p d]] w fun e w'=>e=.returned (.bool (decide (l=m)))∧Below w.heap.size w w':=by
 have hb:=((Below.refl w.heap.size w).alloc (Nat.le_refl _) (.cells #[.slice A n c] 28)).alloc (by simp) (.cells #[.slice B p d] 28);have HB:=Hh hb;have HL:=Hh (h.below hb);have HM:=Hh (k.below hb);have HN:=Hh hn;have HP:=Hh hp;obtain⟨R,hR⟩:∃R,R=decide (l=m):=⟨_,rfl⟩;rw[←hR];have HR:=Hh hR;clear hb h k hn hp hR;go_enter Tryz.func25,Tryz.ntmps25;go_wp2_with (go_at_call 67;refine(zno _ _ _ _ _ _ l m _ HL.out HM.out HN.out HP.out).mono ?_;rintro e w1 ⟨rfl,q,rfl⟩;rw[←HR.out]);go_ret;exact⟨rfl,zcr HB.out _⟩
theorem zmf (A:Option Addr)(c n:Nat)(l:List Nd)(w:World)(h:Ns w A c l)(hn:l.length=n) :
  Calls Tryz.prog 42 #[.slice A n c] w fun e w'=>e=.returned (.bool (zac l))∧Below w.heap.size w w' :=
 (zoL A c n l w h hn).mono fun _ _ ⟨he,hw⟩=>⟨he,zkB hw⟩
def okB (l:List Nd)(k:Int):Bool:=zac l&&decide (0≤k∧k≤(l.length:Int))
def ofQ (l:List Nd)(k:Int):List Nd:=if okB l k=true then OfL l k.toNat else []
def ofE (l:List Nd)(k:Int):Int:=if okB l k=true then 0 else 1
def RetO (l:List Nd)(k:Int)(w:World)(e:Ending)(w':World):Prop :=
 ∃A c,e=.returned (.tuple #[.agg #[.slice A (ofQ l k).length c],.int .i64 (ofE l k)])∧Ns w' A c (ofQ l k)∧(A=none→c=0)∧Below w.heap.size w w'
theorem zvm {l:List Nd}{k:Int}(h:okB l k=false):ofQ l k=[]∧ofE l k=1:=by
 unfold ofQ ofE;rw[if_neg (by rw[h];simp),if_neg (by rw[h];simp)];exact⟨rfl,rfl⟩
theorem zue {l:List Nd}{n:Nat}(hl:zac l=true)(hn:n≤l.length):ofQ l (n:Int)=OfL l n∧ofE l (n:Int)=0:=by
 have h:okB l (n:Int)=true:=by
  unfold okB;rw[hl,decide_eq_true (by omega)];rfl
 unfold ofQ ofE;rw[if_pos h,if_pos h,Int.toNat_natCast];exact⟨rfl,rfl⟩
theorem zvn {l:List Nd}{k:Int}(h:zac l=false∨k<0∨(l.length:Int)<k):okB l k=false:=by
 unfold okB;rcases h with h|h
 ·rw[h];rfl
 ·rw[decide_eq_false (by omega),Bool.and_false]
theorem zmg (w:World):Ns w none 0 []:=⟨by simp,Nat.le_refl _,by simp[maxLen],fun h=>absurd h (Nat.lt_irrefl 0)⟩
end Go.Proofs.YtfjajpnfjjdnpaaGreatDoor
