import Derived.Test.YtbabbmdpgpcgjaaGreatDoorHGdT
import Derived.Test.YtbabbmdpgpcgjaaGreatDoorHPtQ
import Derived.Laws.IdiomStrings

set_option linter.unusedVariables false
set_option linter.unusedSimpArgs false
set_option maxRecDepth 100000
set_option maxHeartbeats 6400000
namespace Go.Proofs.YtbabbmdpgpcgjaaGreatDoor
open Go.RowKit Num Nds
theorem Tryz.infoR:(Tryz.prog.info? 101).map (fun i=>(i.zero,i.size,i.bytes))=some (some (.slice none 0 0),1,24):=by kernel_rfl
theorem Tryz.infoY:(Tryz.prog.info? 5).map (fun i=>(i.zero,i.size,i.bytes))=some (some (.int .u8 0),1,1):=by kernel_rfl
theorem Tryz.infoS:(Tryz.prog.info? 9).map (fun i=>(i.zero,i.size,i.bytes))=some (some (.string ⟨#[]⟩),1,16):=by kernel_rfl
theorem zbL {P:Program}{t:TypeId}{z:Value}{a b:Nat}(h:(P.info? t).map (fun i=>(i.zero,i.size,i.bytes))=some (some z,a,b)):∃i,P.info? t=some i∧i.zero=some z∧i.size=a∧i.bytes=b:=by
 obtain⟨i,h1,h2⟩:=Option.map_eq_some_iff.1 h;simp only[Prod.mk.injEq] at h2;exact⟨i,h1,h2.1,h2.2.1,h2.2.2⟩
structure Rw (W0:World)(Aq:Option Addr)(n cq:Nat)(q:List Nd)(g2 g3:Nat)(b:Xb)(X Y V H:Int)(W:World):Prop where
 bb:Below W0.heap.size W0 W
 qb:W0.heap[g2]?=some (.cells #[.slice Aq n cq] 27)
 xb:W0.heap[g3]?=some b.obj
 ns:Ns W0 Aq cq q
 r:b.R W0 X Y V H
section
variable {W0 W W':World} {Aq:Option Addr} {n cq:Nat} {q:List Nd} {g2 g3:Nat} {b:Xb} {X Y V H:Int}
theorem Rw.next (h:Rw W0 Aq n cq q g2 g3 b X Y V H W)(k:Below W.heap.size W W'):Rw W0 Aq n cq q g2 g3 b X Y V H W':=⟨h.bb.trans (k.mono h.bb.size),h.qb,h.xb,h.ns,h.r⟩
theorem Rw.low (h:Rw W0 Aq n cq q g2 g3 b X Y V H W)(k:Below W0.heap.size W W'):Rw W0 Aq n cq q g2 g3 b X Y V H W':=⟨h.bb.trans k,h.qb,h.xb,h.ns,h.r⟩
theorem Rw.qk (h:Rw W0 Aq n cq q g2 g3 b X Y V H W):W.heap[g2]?=some (.cells #[.slice Aq n cq] 27):=(h.bb.block _ (zab h.qb)).trans h.qb
theorem Rw.xk (h:Rw W0 Aq n cq q g2 g3 b X Y V H W):W.heap[g3]?=some b.obj:=(h.bb.block _ (zab h.xb)).trans h.xb
theorem Rw.rk (h:Rw W0 Aq n cq q g2 g3 b X Y V H W):b.R W X Y V H:=h.r.next h.bb
theorem Rw.nk (h:Rw W0 Aq n cq q g2 g3 b X Y V H W):Ns W Aq cq q:=h.ns.below h.bb
end
structure Pn0 (W0:World)(n cq:Nat)(Aq:Option Addr)(gp g high:Nat)(W:World):Prop where
 pk:W.heap[gp]?=some (.cells #[.slice Aq n cq,.slice (some ⟨g,0,none⟩) high high] 194)
 rows:W.ownsRow W0.heap.size 101 1 (.slice (some ⟨g,0,none⟩) high high) high (List.replicate high (.slice none 0 0))
 ne:gp≠g
 lo:W0.heap.size≤gp
structure Rw1 (W0:World)(Aq:Option Addr)(n cq:Nat)(q:List Nd)(g2 g3:Nat)(b:Xb)(X Y V H:Int)(gp g wide high k:Nat)(R:Nat→Nat)(W:World):Prop where
 rw:Rw W0 Aq n cq q g2 g3 b X Y V H W
 pic:PicR 5 101 W0.heap.size g wide high k R (fun _ _=>0) W
 pk:W.heap[gp]?=some (.cells #[.slice Aq n cq,.slice (some ⟨g,0,none⟩) high high] 194)
 ne:∀i,i<k→gp≠R i
 lo:W0.heap.size≤gp
 gg:gp≠g
theorem Rw1.start {W0 W:World}{Aq:Option Addr}{n cq:Nat}{q:List Nd}{g2 g3:Nat}{b:Xb}{X Y V H:Int}{gp g wide high:Nat}(h:Rw W0 Aq n cq q g2 g3 b X Y V H W)(k:Pn0 W0 n cq Aq gp g high W) :
  Rw1 W0 Aq n cq q g2 g3 b X Y V H gp g wide high 0 (fun _=>0) W :=
 ⟨h,⟨by
  have e:(List.range high).map (rowV (fun _=>0) wide 0)=List.replicate high (.slice none 0 0):=by
   refine List.ext_getElem? fun j=>?_;by_cases hj:j<high
   ·rw[List.getElem?_map,List.getElem?_range hj,List.getElem?_replicate,if_pos hj];rfl
   ·rw[List.getElem?_eq_none (by simpa using hj),List.getElem?_eq_none (by simpa using hj)]
  rw[e];exact k.rows,fun i hi=>by omega,fun a _ ha=>by omega,fun i hi=>by omega⟩,k.pk,fun i hi=>by omega,k.lo,k.ne⟩
theorem zeg {W:World}{gp g high n cq:Nat}{Aq:Option Addr}(h:W.heap[gp]?=some (.cells #[.slice Aq n cq,.slice (some ⟨g,0,none⟩) high high] 194)) :
  W.cell? ⟨gp,0,none⟩=some (.slice Aq n cq)∧W.cell? ⟨gp,1,none⟩=some (.slice (some ⟨g,0,none⟩) high high) :=
 ⟨(cell_of_row W gp 0 _ _ (0,0) h).trans rfl,(cell_of_row W gp 1 _ _ (0,0) h).trans rfl⟩
theorem Rw1.next' {W0 W W':World}{Aq:Option Addr}{n cq:Nat}{q:List Nd}{g2 g3:Nat}{b:Xb}{X Y V H:Int}{gp g wide high k:Nat}{R:Nat→Nat}(h:Rw1 W0 Aq n cq q g2 g3 b X Y V H gp g wide high k R W)(hb:Below W.heap.size W W'):Rw1 W0 Aq n cq q g2 g3 b X Y V H gp g wide high k R W' :=
 ⟨h.rw.next hb,h.pic.next hb,(hb.block gp (zab h.pk)).trans h.pk,h.ne,h.lo,h.gg⟩
theorem Rw1.more {W0 W W':World}{Aq:Option Addr}{n cq:Nat}{q:List Nd}{g2 g3:Nat}{b:Xb}{X Y V H:Int}{gp g wide high k:Nat}{R:Nat→Nat}(h:Rw1 W0 Aq n cq q g2 g3 b X Y V H gp g wide high k R W)(hk:k<high)
  (ho:W'.ownsRow W0.heap.size 5 1 (.slice (some ⟨W.heap.size,0,none⟩) wide wide) wide (List.replicate wide (.int .u8 0))) (hb:Below W.heap.size W W') :
  Rw1 W0 Aq n cq q g2 g3 b X Y V H gp g wide high (k+1) (fun i=>if i=k then W.heap.size else R i) (W'.setCell ⟨g,k,none⟩ (.slice (some ⟨W.heap.size,0,none⟩) wide wide)):=by
 have hg:=h.pic.ltG;have hp:=zab h.pk;refine⟨(h.rw.next hb).low ((Below.refl _ _).setCell (p:=⟨g,k,none⟩) hg.1 _),h.pic.more hk hb (Nat.le_refl _) ho,?_,fun i hi=>?_,h.lo,h.gg⟩
 ·exact(heap_setCell_other W' ⟨g,k,none⟩ gp _ h.gg).trans ((hb.block gp hp).trans h.pk)
 ·split
  ·omega
  ·exact h.ne i (by omega)
structure RwP (W0:World)(Aq:Option Addr)(n cq:Nat)(q:List Nd)(g2 g3:Nat)(b:Xb)(X Y V H:Int)(gp g wide high:Nat)(R:Nat→Nat)(z:Nd)(gz:Nat)(M:Int→Int→Int)(W:World):Prop where
 rw:Rw W0 Aq n cq q g2 g3 b X Y V H W
 pic:PicR 5 101 W0.heap.size g wide high high R M W
 pk:W.heap[gp]?=some (.cells #[.slice Aq n cq,.slice (some ⟨g,0,none⟩) high high] 194)
 ne:∀i,i<high→gp≠R i
 nb:zbs W gz z
 nz:∀i,i<high→gz≠R i
section
variable {W0 W W':World} {Aq:Option Addr} {n cq:Nat} {q:List Nd} {g2 g3:Nat} {b:Xb} {X Y V H:Int} {gp g wide high:Nat} {R:Nat→Nat} {z:Nd} {gz:Nat} {M M':Int→Int→Int}
theorem Rw1.root (h:Rw1 W0 Aq n cq q g2 g3 b X Y V H gp g wide high high R W)(z:Nd):RwP W0 Aq n cq q g2 g3 b X Y V H gp g wide high R z W.heap.size (fun _ _=>0) (W.alloc (.cells #[.int .i64 z.lv,.int .i64 z.a,.int .i64 z.b,.int .i64 z.c,.int .i64 z.d] 112)) :=
 have hb:=(Below.refl W.heap.size W).alloc (Nat.le_refl _) (.cells #[.int .i64 z.lv,.int .i64 z.a,.int .i64 z.b,.int .i64 z.c,.int .i64 z.d] 112)
 ⟨h.rw.next hb,h.pic.next hb,(hb.block gp (zab h.pk)).trans h.pk,h.ne,zbs.new W z,fun i hi e=>by have:=(h.pic.ltR hi).2;omega⟩
theorem RwP.next (h:RwP W0 Aq n cq q g2 g3 b X Y V H gp g wide high R z gz M W)(k:Below W.heap.size W W'):RwP W0 Aq n cq q g2 g3 b X Y V H gp g wide high R z gz M W' :=
 ⟨h.rw.next k,h.pic.next k,(k.block gp (zab h.pk)).trans h.pk,h.ne,h.nb.stay (k.block _ h.nb.lt),h.nz⟩
theorem RwP.paint (h:RwP W0 Aq n cq q g2 g3 b X Y V H gp g wide high R z gz M W)(k:Ky (RowP R high) W W')(p:PicR 5 101 W0.heap.size g wide high high R M' W'):RwP W0 Aq n cq q g2 g3 b X Y V H gp g wide high R z gz M' W' :=
 ⟨h.rw.low (k.to h.rw.bb.size (fun j hj=>by obtain⟨i,hi,rfl⟩:=hj;exact(h.pic.ltR hi).1)),p,(k.block gp (zab h.pk) (fun⟨i,hi,e⟩=>h.ne i hi e)).trans h.pk,h.ne,h.nb.stay (k.block gz h.nb.lt (fun⟨i,hi,e⟩=>h.nz i hi e)),h.nz⟩
theorem RwP.set (h:RwP W0 Aq n cq q g2 g3 b X Y V H gp g wide high R z gz M W){p:Addr}(hp:W0.heap.size≤p.block)(hg:p.block≠g)(hr:∀i,i<high→p.block≠R i)(hgp:gp≠p.block)(hz:gz≠p.block)(u:Value):RwP W0 Aq n cq q g2 g3 b X Y V H gp g wide high R z gz M (W.setCell p u) :=
 ⟨h.rw.low ((Below.refl _ _).setCell hp u),h.pic.other hg hr u,(heap_setCell_other W p gp u hgp).trans h.pk,h.ne,h.nb.stay (heap_setCell_other W p gz u hz),h.nz⟩
theorem RwP.cells (h:RwP W0 Aq n cq q g2 g3 b X Y V H gp g wide high R z gz M W) :
  W.cell? ⟨gz,0,none⟩=some (.int .i64 z.lv)∧W.cell? ⟨gz,1,none⟩=some (.int .i64 z.a)∧W.cell? ⟨gz,2,none⟩=some (.int .i64 z.b)∧W.cell? ⟨gz,3,none⟩=some (.int .i64 z.c)∧W.cell? ⟨gz,4,none⟩=some (.int .i64 z.d)∧W.cell? ⟨g3,0,none⟩=some (.bool b.x.s)∧W.cell? ⟨g3,1,none⟩=some (.slice b.x.a b.x.xs.length b.x.c)∧W.cell? ⟨g3,2,none⟩=some (.bool b.y.s)∧W.cell? ⟨g3,3,none⟩=some (.slice b.y.a b.y.xs.length b.y.c):=by
 obtain⟨c0,c1,c2,c3,c4⟩:=h.nb.cells;obtain⟨x0,x1,x2,x3,-⟩:=Xb.cells h.rw.xk;exact⟨c0,c1,c2,c3,c4,x0,x1,x2,x3⟩
theorem RwP.pn (h:RwP W0 Aq n cq q g2 g3 b X Y V H gp g wide high R z gz M W)(hq:0<q.length):PnI W0.heap.size q n cq Aq gp g wide high R M W :=
 ⟨h.rw.nk,fun a e ⟨i,hi,e2⟩=>by
  obtain⟨bb,off,e3,hlt,-⟩:=h.rw.ns.at_ hq
  rw[e] at e3;injection e3 with e3
  rw[e3] at e2;have h1:=(h.pic.ltR hi).1;have e4:bb=R i:=e2;omega,h.pk,fun⟨i,hi,e⟩=>h.ne i hi e,h.pic⟩
end
theorem zvy {s:Bool}{xs:List Nat}(h:Dig xs):(if s then -((xs.getD 0 0:Nat):Int) else ((xs.getD 0 0:Nat):Int))%4294967296=ival s xs%4294967296:=by
 cases xs with
 | nil=>cases s <;> rfl
 | cons x r =>
  have hx:x<4294967296:=h x (by simp);obtain⟨h1,h2⟩:=zwx (r:=r) hx;cases s with
  | false =>
   rw[h1];show((x:Nat):Int)%_=_;omega
  | true =>
   rw[h2];rfl
theorem zwy {q:List Nd}(hg:zas q)(h0:0<q.length):(den q q.length).lv.toNat=(at_ q (q.length-1)).lv.toNat:=by
 have hlv:=zaH (zaq hg.1 (i:=q.length-1) (by omega));obtain⟨m,hm⟩:∃m:Nat,(at_ q (q.length-1)).lv=(m:Int)+1:=⟨(at_ q (q.length-1)).lv.toNat-1,by omega⟩;have hw:=zbY hg.1 (q.length-1) (by omega);rw[Nat.sub_add_cancel (by omega),hm] at hw;have hne:=(hg.2 (q.length-1) (by omega)).1;rw[Nat.sub_add_cancel (by omega)] at hne;rw[zrl hw hne,hm]
def sRow (M:Int→Int→Int)(wide high k:Nat):List Value:=(List.range high).map fun i=>if i<k then strV (strM M i wide) else strV []
theorem zry (M:Int→Int→Int)(wide high:Nat):sRow M wide high 0=List.replicate high (strV []):=by
 unfold sRow;refine List.ext_getElem? fun j=>?_;by_cases hj:j<high
 ·rw[List.getElem?_map,List.getElem?_range hj,List.getElem?_replicate,if_pos hj];rfl
 ·rw[List.getElem?_eq_none (by simpa using hj),List.getElem?_eq_none (by simpa using hj)]
theorem zub (M:Int→Int→Int)(wide high:Nat):sRow M wide high high=(zbv M wide high).map strV:=by
 unfold sRow zbv;rw[List.map_map];refine List.map_congr_left fun i hi=>?_;rw[if_pos (List.mem_range.1 hi)];rfl
theorem zuc (M:Int→Int→Int)(wide high:Nat){k:Nat}(hk:k<high):(sRow M wide high k).set k (strV (strM M k wide))=sRow M wide high (k+1):=by
 unfold sRow;refine List.ext_getElem? fun j=>?_;by_cases hj:j<high
 ·rw[List.getElem?_set];by_cases e:k=j
  ·subst e;rw[if_pos rfl,if_pos (by simpa using hj),List.getElem?_map,List.getElem?_range hj];show _=some (if k<k+1 then _ else _);rw[if_pos (by omega)]
  ·rw[if_neg e,List.getElem?_map,List.getElem?_range hj,List.getElem?_map,List.getElem?_range hj];show some (if j<k then _ else _)=some (if j<k+1 then _ else _);by_cases h1:j<k
   ·rw[if_pos h1,if_pos (by omega)]
   ·rw[if_neg h1,if_neg (by omega)]
 ·rw[List.getElem?_eq_none (by simpa using hj),List.getElem?_eq_none (by simpa using hj)]
theorem zud {tB tR:TypeId}{base g wide high k:Nat}{R:Nat→Nat}{M:Int→Int→Int}{W:World}(h:PicR tB tR base g wide high high R M W)(hk:k<high)(hM:∀r c,0≤M r c∧M r c≤255) :
  (convert 101 9 (.slice (some ⟨R k,0,none⟩) wide wide)).run Tryz.prog W=.ok (.string ⟨(strM M k wide).toArray⟩) W:=by
 have:=run_convert_bytes_back (P:=Tryz.prog) W 101 9 5 ⟨R k,0,none⟩ wide (strM M k wide) Tryz.underlying101 Tryz.underlying5 Tryz.underlying9 (fun j hj=>?_)
 ·rw[zbP] at this;exact this
 ·rw[zbP] at hj;have e:=h.get (k:=k) (i:=j) hk hj;have e2:=zmg M (k:=k) hj;rw[List.getElem?_eq_getElem (by rw[zbP];exact hj)] at e2;injection e2 with e2
  have e3:(⟨R k,0,none⟩:Addr).add j=⟨R k,j,none⟩:=by unfold Addr.add;split <;> simp_all
  rw[e3,e,e2,zhv (hM k j)]
def zyW (q:List Nd)(n:Nat)(X Y:Int)(wide high:Nat)(w:World)(e:Ending)(w':World):Prop :=
 ∃A c,e=.returned (.slice A high c)∧Ts w' A c (zbv (picM (den q n) X Y) wide high)∧(A=none→c=0)∧Below w.heap.size w w'
theorem zer {w w':World}(h:w.grownBy w' none):Below w.heap.size w w':=(Below.refl _ _).grown h (Nat.le_refl _) (fun k hk=>by cases hk)
theorem zoK (Aq:Option Addr)(n cq wide high:Nat)(q:List Nd)(b:Xb)(X Y:Int)(w:World)(h:Ns w Aq cq q)(hn:q.length=n)(h0:0<n)(hn9:n≤900000)(hg:zas q)(hr:b.R w X Y wide high)(hsh:b.Sh)(bt:BoxT (den q n) (at_ q (n-1)).lv.toNat X Y wide high)(hw9:wide≤1000)(hh9:high≤1000) :
  Calls Tryz.prog 106 #[.agg #[.slice Aq n cq],b.val] w (zyW q n X Y wide high w):=by
 obtain⟨iR,hiR⟩:=zbL Tryz.infoR;obtain⟨iY,hiY⟩:=zbL Tryz.infoY;obtain⟨iS,hiS⟩:=zbL Tryz.infoS;have HiR:=Hh hiR;have HiY:=Hh hiY;have HiS:=Hh hiS;have hb1:=(Below.refl w.heap.size w).alloc (Nat.le_refl _) (.cells #[.slice Aq n cq] 27);have hb2:=hb1.alloc hb1.size b.obj;have hq0:=heap_alloc_new w (.cells #[.slice Aq n cq] 27);have hx0:=heap_alloc_new (w.alloc (.cells #[.slice Aq n cq] 27)) b.obj;rw[World.size_alloc] at hx0;obtain⟨W0,hW0⟩:∃W0:World,W0=(w.alloc (.cells #[.slice Aq n cq] 27)).alloc b.obj:=⟨_,rfl⟩;have hq1:W0.heap[w.heap.size]?=some (.cells #[.slice Aq n cq] 27):=by rw[hW0];exact(((Below.refl _ _).alloc (Nat.le_refl _) _).block _ (by rw[World.size_alloc];omega)).trans hq0
 rw[←hW0] at hb2 hx0;have hsz:W0.heap.size=w.heap.size+1+1:=by rw[hW0,World.size_alloc,World.size_alloc]
 have HW0:=Hh hsz;have RW:=Hh (show Rw W0 Aq n cq q w.heap.size (w.heap.size+1) b X Y wide high W0 from⟨Below.refl _ _,hq1,hx0,h.below hb2,hr.next hb2⟩);have HB0:=Hh hb2;have HL:=Hh hn;have HG:=Hh hg;have HSH:=Hh hsh;have HBT:=Hh bt;have i1:inI (wide:Int)=true:=by(unfold inI;simp;omega)
 have i2:inI (high:Int)=true:=by(unfold inI;simp;omega)
 have o1:outI (wide:Int)=(wide:Int):=by(unfold outI;rw[i1];rfl)
 have o2:outI (high:Int)=(high:Int):=by(unfold outI;rw[i2];rfl)
 obtain⟨c0,c1,c2,c3,c4,c5,c6,c7⟩:=Xb.cells RW.out.xk;have q0:True:=trivial;clear hiR hiY hiS hb1 hb2 hq0 hx0 hq1 hsz h hn hg hr hsh bt;go_enter Tryz.func106,Tryz.ntmps106;go_upto_region 3 with(first
  | (have _t:=q0;go_at_call 151;clear _t;go_loud (refine(znD b.w.s b.w.a b.w.c b.w.xs _ (by rw[←hW0];exact RW.out.rk.w.us) RW.out.rk.w.cn.1).mono ?_;rintro e w2 ⟨rfl,b_⟩;rw[←hW0] at b_;rw[RW.out.rk.w.v,o1,i1];have RW:=Hh (RW.out.next b_);clear b_ c0 c1 c2 c3 c4 c5 c6 c7;obtain⟨c0,c1,c2,c3,c4,c5,c6,c7⟩:=Xb.cells RW.out.xk;have q1:=q0;clear q0))
  | (have _t:=q1;go_at_call 151;clear _t;go_loud (refine(znD b.h.s b.h.a b.h.c b.h.xs _ RW.out.rk.h.us RW.out.rk.h.cn.1).mono ?_;rintro e w3 ⟨rfl,b_⟩;rw[RW.out.rk.h.v,o2,i2];have RW:=Hh (RW.out.next b_);clear b_ c0 c1 c2 c3 c4 c5 c6 c7;obtain⟨c0,c1,c2,c3,c4,c5,c6,c7⟩:=Xb.cells RW.out.xk;have q2:=q1;clear q1)))
 go_cut [9] from 28 to 32 (fun s9 wx=>∃gp g,s9=.pointer (some ⟨gp,0,none⟩)∧Rw W0 Aq n cq q w.heap.size (w.heap.size+1) b X Y wide high wx∧Pn0 W0 n cq Aq gp g high wx)
 case first =>
  obtain⟨W1,hW1⟩:∃W1:World,W1=w3.drew:=⟨_,rfl⟩;have RW1:=Hh (RW.out.next (Below.drew' (Below.refl _ w3)));rw[←hW1] at RW1;refine wp_region_noPanic ?_;refine wp_region_held (S:=fun w'=>w'.cell? ⟨w.heap.size,0,none⟩=some (.slice Aq n cq)) (by kernel_rfl) ?_;change wpAnyH _ _ _ _ _ _ _ _ w3.drew;rw[←hW1];clear hW1 RW c0 c1 c2 c3 c4 c5 c6 c7 q2;have hS0:=zaa RW1.out.qk;refine Tk1 (v:=?_) 0 hS0 ?_ ?_;rotate_left
  ·rintro w' _;go_simp;first|done|with_reducible rfl|rfl
  simp only[Act.put,LA];refine Tk1 (v:=?_) 1 hS0 ?_ ?_;rotate_left
  ·rintro w' _;go_simp;first|done|with_reducible rfl|rfl
  simp only[Act.put,LA];refine Tk1 (v:=?_) 2 hS0 ?_ ?_;rotate_left
  ·rintro w' _;go_simp;first|done|with_reducible rfl|rfl
  simp only[Act.put,LA];refine Rd2 3 5 (fun K hK=>?_) fun K hK=>?_
  ·try rw[if_pos (by rfl)]
   refine zbo (.tmp 30) (.tmp 30) 192 rfl W0.heap.size 101 iR _ 1 Tryz.underlying192 HiR.out.1 HiR.out.2.1 HiR.out.2.2.1 .i64 .i64 _ _ high rfl rfl rfl rfl (by rw[HiR.out.2.2.2];omega) (by unfold maxLen;omega) RW1.out.bb.size ?_;intro w5 own5 grow5;simp only[Act.put,LA];rw[zdn rfl] at own5;have hb5:=zer grow5;have RW5:=Hh (RW1.out.next hb5);refine hK.out _ _ (zaa RW5.out.qk) (fun _=>?_);clear hK K;refine Tk1 (v:=?_) 4 (zaa RW5.out.qk) ?_ ?_;rotate_left
   ·rintro w' _;go_simp;first|done|with_reducible rfl|rfl
   simp only[Act.put,LA];refine Rd1 5 fun K hK=>?_;go_simp;have hal:=(Below.refl w5.heap.size w5).alloc (Nat.le_refl _) (.cells #[.slice none 0 0,.slice none 0 0] 194);have hbx:=heap_alloc_new w5 (.cells #[.slice none 0 0,.slice none 0 0] 194);have RW6:=Hh (RW5.out.next hal);have own6:=own5.kept (gbX hal) (.inr (by simp[Value.ownBlock]));have hlt5:=own5.lt _ rfl;obtain⟨gp,hgp⟩:∃g,g=w5.heap.size:=⟨_,rfl⟩;obtain⟨w6,hw6⟩:∃Z:World,Z=w5.alloc (.cells #[.slice none 0 0,.slice none 0 0] 194):=⟨_,rfl⟩;rw[←hgp,←hw6] at hbx;rw[←hw6] at RW6 own6 ⊢;rw[←hgp] at hlt5 ⊢;have hszg:w5.heap.size=gp:=hgp.symm;have hlo:W0.heap.size≤gp:=by have:=RW5.out.bb.size;omega
   clear hw6 hszg hgp hal;refine hK.out _ _ (zaa RW6.out.qk) (fun _=>?_);clear hK K;have hnq:¬ gp=w.heap.size:=by have:=HW0.out;omega
   have hnq2:¬ w.heap.size=gp:=fun e=>hnq e.symm;have z0:=(cell_of_row _ gp 0 _ _ (0,0) hbx).trans (by rfl:_=some (Value.slice none 0 0));have z1:=(cell_of_row _ gp 1 _ _ (0,0) hbx).trans (by rfl:_=some (Value.slice none 0 0));have z2:=frozen_of_row _ gp 0 _ _ hbx;have z3:=frozen_of_row _ gp 1 _ _ hbx;refine Rd1 6 fun K hK=>?_;go_simp;have hs8:(((w6.setCell ⟨gp,0,none⟩ (.slice Aq n cq)).setCell ⟨gp,1,none⟩ (.slice (some ⟨W1.heap.size,0,none⟩) high high))).cell? ⟨w.heap.size,0,none⟩=some (.slice Aq n cq):=by
    rw[World.cell?_setCell_other _ _ _ _ (by simp[hnq,hnq2]),World.cell?_setCell_other _ _ _ _ (by simp[hnq,hnq2])];exact zaa RW6.out.qk
   refine hK.out _ _ hs8 (fun _=>?_);clear hK K;refine wpAnyH_done (by kernel_rfl) ?_ _;refine NoPanic.normal ?_;go_wp2_with fail;go_meet;have hb8:=((Below.refl W0.heap.size w6).setCell (p:=⟨gp,0,none⟩) hlo (.slice Aq n cq)).setCell (p:=⟨gp,1,none⟩) hlo (.slice (some ⟨W1.heap.size,0,none⟩) high high);refine⟨gp,W1.heap.size,rfl,RW6.out.low hb8,⟨(heap_setCell_same _ gp 1 _ _ _ ((heap_setCell_same w6 gp 0 _ _ _ hbx).trans rfl)).trans rfl,?_,by omega,hlo⟩⟩;exact ownsRow_setCell_other (ownsRow_setCell_other own6 (a:=⟨gp,0,none⟩) (by simp[Value.ownBlock];omega) _) (a:=⟨gp,1,none⟩) (by simp[Value.ownBlock];omega) _
  ·go_simp;have hal:=(Below.refl W1.heap.size W1).alloc (Nat.le_refl _) (.cells #[.slice none 0 0,.slice none 0 0] 194);have hbx5:=heap_alloc_new W1 (.cells #[.slice none 0 0,.slice none 0 0] 194);have RW5:=Hh (RW1.out.next hal);have hlo:W0.heap.size≤W1.heap.size:=RW1.out.bb.size;obtain⟨gp,hgp⟩:∃g,g=W1.heap.size:=⟨_,rfl⟩;obtain⟨w4,hw4⟩:∃Z:World,Z=W1.alloc (.cells #[.slice none 0 0,.slice none 0 0] 194):=⟨_,rfl⟩;rw[←hgp,←hw4] at hbx5;rw[←hw4] at RW5 ⊢;rw[←hgp] at hlo ⊢;clear hw4 hgp hal;refine hK.out _ _ (zaa RW5.out.qk) (fun _=>?_);clear hK K;refine Rd1 3 fun K hK=>?_
   try rw[if_pos (by rfl)]
   refine zbo (.tmp 30) (.tmp 30) 192 rfl W0.heap.size 101 iR _ 1 Tryz.underlying192 HiR.out.1 HiR.out.2.1 HiR.out.2.2.1 .i64 .i64 _ _ high rfl rfl rfl rfl (by rw[HiR.out.2.2.2];omega) (by unfold maxLen;omega) RW5.out.bb.size ?_;intro w6 own6 grow6;simp only[Act.put,LA];rw[zdn rfl] at own6;have hb6:=zer grow6;have RW6:=Hh (RW5.out.next hb6);have hbx:=(hb6.block gp (zab hbx5)).trans hbx5;have hlt5:=zab hbx5;refine hK.out _ _ (zaa RW6.out.qk) (fun _=>?_);clear hK K;have hnq:¬ gp=w.heap.size:=by have:=HW0.out;omega
   have hnq2:¬ w.heap.size=gp:=fun e=>hnq e.symm;refine Tk1 (v:=?_) 4 (zaa RW6.out.qk) ?_ ?_;rotate_left
   ·rintro w' _;go_simp;first|done|with_reducible rfl|rfl
   simp only[Act.put,LA];have z0:=(cell_of_row _ gp 0 _ _ (0,0) hbx).trans (by rfl:_=some (Value.slice none 0 0));have z1:=(cell_of_row _ gp 1 _ _ (0,0) hbx).trans (by rfl:_=some (Value.slice none 0 0));have z2:=frozen_of_row _ gp 0 _ _ hbx;have z3:=frozen_of_row _ gp 1 _ _ hbx;refine Rd1 6 fun K hK=>?_;go_simp;have hs8:(((w6.setCell ⟨gp,0,none⟩ (.slice Aq n cq)).setCell ⟨gp,1,none⟩ (.slice (some ⟨w4.heap.size,0,none⟩) high high))).cell? ⟨w.heap.size,0,none⟩=some (.slice Aq n cq):=by
    rw[World.cell?_setCell_other _ _ _ _ (by simp[hnq,hnq2]),World.cell?_setCell_other _ _ _ _ (by simp[hnq,hnq2])];exact zaa RW6.out.qk
   refine hK.out _ _ hs8 (fun _=>?_);clear hK K;refine wpAnyH_done (by kernel_rfl) ?_ _;refine NoPanic.normal ?_;go_wp2_with fail;go_meet;have hb8:=((Below.refl W0.heap.size w6).setCell (p:=⟨gp,0,none⟩) hlo (.slice Aq n cq)).setCell (p:=⟨gp,1,none⟩) hlo (.slice (some ⟨w4.heap.size,0,none⟩) high high);refine⟨gp,w4.heap.size,rfl,RW6.out.low hb8,⟨(heap_setCell_same _ gp 1 _ _ _ ((heap_setCell_same w6 gp 0 _ _ _ hbx).trans rfl)).trans rfl,?_,by omega,hlo⟩⟩;exact ownsRow_setCell_other (ownsRow_setCell_other own6 (a:=⟨gp,0,none⟩) (by simp[Value.ownBlock];omega) _) (a:=⟨gp,1,none⟩) (by simp[Value.ownBlock];omega) _

 case rest =>
  obtain⟨gp,g,rfl,rw4,pn4⟩:=hcut;have R1:=Hh (Rw1.start (wide:=wide) rw4 pn4);obtain⟨d0,d1⟩:=zeg pn4.pk;clear rw4 pn4;go_wp2_with fail;go_loopw [36,10] (fun z1 z2 wr=>∃(k:Nat) (v:Value) (R:Nat→Nat),z1=.int .i64 k∧z2=v∧k≤high∧Rw1 W0 Aq n cq q w.heap.size (w.heap.size+1) b X Y wide high gp g wide high k R wr) (fun z1 _ _=>high-(intOf z1).toNat)
  case atStart=>exact⟨0,_,_,rfl,rfl,Nat.zero_le _,R1.out⟩
  case round =>
   obtain⟨k,v,R,rfl,rfl,hk,hr⟩:=hrel;clear R1 d0 d1;obtain⟨d0,d1⟩:=zeg hr.pk;have R1:=Hh hr;have kw:IntKind.i64.wrap ((k:Int)+1)=(k:Int)+1:=IntWalk.i64_in _ (by omega);clear hr;by_cases hlt:k<high
   ·have j1:(k:Int)<(high:Int):=by omega
    have HLT:=Hh hlt;go_wp2_with fail;refine wp_region_noPanic ?_;refine wp_region_held (S:=fun w'=>w'.cell? ⟨gp,1,none⟩=some (.slice (some ⟨g,0,none⟩) high high)) (by kernel_rfl) ?_;obtain⟨W1,hW1⟩:∃W1:World,W1=wr.drew:=⟨_,rfl⟩;have R2:=Hh (R1.out.next' (Below.drew' (Below.refl _ wr)));rw[←hW1] at R2;change wpAnyH _ _ _ _ _ _ _ _ wr.drew;rw[←hW1];clear hW1 R1 d0 d1;have hS0:=(zeg R2.out.pk).2;refine Tk1 (v:=?_) 0 hS0 ?_ ?_;rotate_left
    ·rintro w' _;go_simp;first|done|with_reducible rfl|rfl
    simp only[Act.put,LA];refine Tk1 (v:=?_) 1 hS0 ?_ ?_;rotate_left
    ·rintro w' _;go_simp;first|done|with_reducible rfl|rfl
    simp only[Act.put,LA];refine Tk1 (v:=?_) 2 hS0 ?_ ?_;rotate_left
    ·rintro w' _;go_simp;first|done|with_reducible rfl|rfl
    simp only[Act.put,LA];refine Tk1 (v:=?_) 3 hS0 ?_ ?_;rotate_left
    ·rintro w' _;go_simp;first|done|with_reducible rfl|rfl
    simp only[Act.put,LA];refine Rd1 4 fun K hK=>?_
    try rw[if_pos (by rfl)]
    refine zbo (.tmp 42) (.tmp 42) 101 rfl W0.heap.size 5 iY _ 1 Tryz.underlying101 HiY.out.1 HiY.out.2.1 HiY.out.2.2.1 .i64 .i64 _ _ wide rfl rfl rfl rfl (by rw[HiY.out.2.2.2];omega) (by unfold maxLen;omega) R2.out.rw.bb.size ?_;intro w5 own5 grow5;simp only[Act.put,LA];rw[zdn rfl] at own5;have hb5:=zer grow5;have hS5:=(zeg ((hb5.block gp (zab R2.out.pk)).trans R2.out.pk)).2;refine hK.out _ _ hS5 (fun _=>?_);clear hK K;refine Tk1 (v:=?_) 5 hS5 ?_ ?_;rotate_left
    ·rintro w' _;go_simp;first|done|with_reducible rfl|rfl
    simp only[Act.put,LA];have z0:=(R2.out.pic.next hb5).rowAt HLT.out;have z1:=(R2.out.pic.next hb5).freeG k;have hnn:=R2.out.gg;have hnn2:¬ g=gp:=fun e=>hnn e.symm;refine Rd1 6 fun K hK=>?_;go_simp;refine hK.out _ _ (by rw[World.cell?_setCell_other _ _ _ _ (by simp[hnn,hnn2])];exact hS5) (fun _=>?_);clear hK K;refine wpAnyH_done (by kernel_rfl) ?_ _;refine NoPanic.normal ?_;have R3:=Hh (R2.out.more HLT.out own5 hb5);go_wp2_with fail;go_roundw
    case rel=>exact⟨k+1,_,_,by go_num,rfl,by have:=HLT.out;omega,R3.out⟩
    case measure=>have:=HLT.out;simp[intOf];omega
   ·have e:k=high:=by omega
    subst e;obtain⟨r,hr⟩:∃r,n=r+1:=⟨n-1,by omega⟩;have hqr:r<q.length:=by rw[HL.out];omega
    have NK:=Hh R1.out.rw.nk;obtain⟨bb,off,hA,hbb,hcc⟩:=NK.out.at_ (by omega)
    obtain⟨z,hz⟩:∃z,z=at_ q r:=⟨_,rfl⟩
    obtain⟨n0,n1,n2,n3,n4⟩:=hcc r hqr;rw[←hz] at n0 n1 n2 n3 n4;have hzf:=zaq HG.out.1 hqr;rw[←hz] at hzf;have hlv:=zaH hzf;obtain⟨m,hm⟩:∃m:Nat,z.lv=(m:Int)+1:=⟨z.lv.toNat-1,by omega⟩;have i5:IntKind.i64.wrap ((n:Int)-1)=(r:Int):=by rw[show(n:Int)-1=(r:Int) by omega];exact IntWalk.i64_in _ (by omega)
    have i6:IntKind.i64.wrap (r:Int)=(r:Int):=IntWalk.i64_in _ (by omega);have j5:(r:Int)<(n:Int):=by omega
    have i7:IntKind.i64.wrap (z.lv-1)=(m:Int):=by rw[show z.lv-1=(m:Int) by omega];exact IntWalk.i64_in _ (by omega)
    have m9:m≤1328:=by omega
    obtain⟨e0,e1⟩:=(show wr.cell? ⟨w.heap.size,0,none⟩=some (.slice Aq n cq)∧True from⟨zaa R1.out.rw.qk,trivial⟩);obtain⟨H,hH⟩:∃H,H=(2:Int)^m%4294967296:=⟨_,rfl⟩;have HH:=Hh hH;have hwf:=NK.out.wf hqr;rw[←hz] at hwf;have HWF:=Hh hwf;have hrl:=zwy HG.out (by omega);rw[HL.out,show n-1=r by omega,←hz,hm,show((m:Int)+1).toNat=m+1 by omega] at hrl;have hden:den q n=norm (dens q) z:=by rw[hr,zbR HG.out.1 hqr,←hz]
    have hbt:=HBT.out;rw[show n-1=r by omega,←hz,hm,show((m:Int)+1).toNat=m+1 by omega] at hbt;have hin:=hbt.inP hrl;rw[show m+1-1=m by omega,hden] at hin;have HIN:=Hh hin;have hov:=zoJ (den q n) X Y;rw[hrl,show m+1-1=m by omega] at hov;have HOV:=Hh (show zcf (norm (dens q) z) (-p2 m-X) (-p2 m-Y) (fun _ _=>0)=picM (den q n) X Y by rw[←hden];exact hov);have HEU:=Hh (show IntKind.u32.wrap (IntKind.u32.wrap (-H)-X%4294967296)=(-p2 m-X)%4294967296 by
     rw[IntKind.wrap_u32,IntKind.wrap_u32,hH];exact znH m X)
    have HEV:=Hh (show IntKind.u32.wrap (IntKind.u32.wrap (-H)-Y%4294967296)=(-p2 m-Y)%4294967296 by
     rw[IntKind.wrap_u32,IntKind.wrap_u32,hH];exact znH m Y)
    have HPB:=Hh (show ∀r c,0≤picM (den q n) X Y r c∧picM (den q n) X Y r c≤255 from fun r c=>by have:=zjD HG.out.1 X Y r c;rwa [HL.out] at this);have HZ:=Hh hz;have HZF:=Hh hzf;clear hwf hrl hden hbt hin hov;have HM:=Hh hm;have HA:=Hh hA;have HR:=Hh hr;subst hA;clear hcc hz hzf hlv hm hr hH hlt hk;obtain⟨x0,x1,x2,x3,x4,x5,x6,x7⟩:=Xb.cells R1.out.rw.xk;go_wp2_with (go_at_call 152;go_loud (refine(zjF m _ (by omega)).mono ?_;rintro e w6 ⟨rfl,b_⟩;rw[←HH.out];have P6:=Hh ((R1.out.root z).next b_);clear b_));have pa0:=P6.out.next (Below.drew' (Below.refl _ w6));clear P6 x0 x1 x2 x3 x4 x5 x6 x7 n0 n1 n2 n3 n4 d0 d1 e0;have p00:(w6.drew).heap.size=w6.heap.size:=rfl;go_region_held3 (fun w'=>w'.cell? ⟨wr.heap.size,0,none⟩=some (.int .i64 z.lv)∧w'.cell? ⟨wr.heap.size,1,none⟩=some (.int .i64 z.a)∧w'.cell? ⟨wr.heap.size,2,none⟩=some (.int .i64 z.b)∧w'.cell? ⟨wr.heap.size,3,none⟩=some (.int .i64 z.c)∧w'.cell? ⟨wr.heap.size,4,none⟩=some (.int .i64 z.d)∧w'.cell? ⟨w.heap.size+1,0,none⟩=some (.bool b.x.s)∧w'.cell? ⟨w.heap.size+1,1,none⟩=some (.slice b.x.a b.x.xs.length b.x.c)∧w'.cell? ⟨w.heap.size+1,2,none⟩=some (.bool b.y.s)∧w'.cell? ⟨w.heap.size+1,3,none⟩=some (.slice b.y.a b.y.xs.length b.y.c))
     (exact RwP.cells (by assumption))
     (first
     | (have _t:=pa0;go_at_call 154;clear _t;go_loud (refine(zrw b.x.s b.x.a _ b.x.c b.x.xs _ pa0.rw.rk.x.us rfl).mono ?_;rintro e w7 ⟨rfl,b_⟩;rw[zvy pa0.rw.rk.x.us.1,pa0.rw.rk.x.v];have pa1:=pa0.next b_;clear pa0 b_))
     | (have _t:=pa1;go_at_call 154;clear _t;go_loud (refine(zrw b.y.s b.y.a _ b.y.c b.y.xs _ pa1.rw.rk.y.us rfl).mono ?_;rintro e w8 ⟨rfl,b_⟩;rw[zvy pa1.rw.rk.y.us.1,pa1.rw.rk.y.v];have pa2:=pa1.next b_;clear pa1 b_))
     | (have _t:=pa2;go_at_call 153;clear _t;go_loud (have hr:=zrx W0.heap.size n cq q (some ⟨bb,off,none⟩) gp g wide k R HG.out.1 HL.out hw9 hh9 m z (-p2 m-X) (-p2 m-Y) (fun _ _=>0) _ m9 HM.out HWF.out HZF.out HIN.out (pa2.pn (by rw[HL.out];exact h0));rw[←HEU.out,←HEV.out] at hr;refine hr.mono ?_;rintro e w9 ⟨rfl,hk_,hp_⟩;have pa3:=pa2.paint hk_ (show PicR _ _ _ _ _ _ _ _ (picM (den q n) X Y) _ by(rw[←HOV.out];exact hp_));clear pa2 hk_ hp_ hr)))
    have P9:=Hh pa3;clear pa3;obtain⟨d0,d1⟩:=zeg P9.out.pk;have hk9:k≤9223372036854775807:=by omega
    go_wp2_with (at_make;refine wpList_make_full _ rfl _ _ 56 rfl w9.heap.size 9 iS _ 1 Tryz.underlying56 HiS.out.1 HiS.out.2.1 HiS.out.2.2.1 .i64 .i64 _ _ k rfl rfl (by omega) (by omega) (by rw[HiS.out.2.2.2];omega) (by unfold maxLen;omega) (Nat.le_refl _) ?_;intro wa owa grwa;rw[zdn rfl] at owa;have hba:=zer grwa;have PA:=Hh (P9.out.next hba);have SZ:=Hh hba.size;have OA:=Hh owa;clear owa grwa hba d0 d1;obtain⟨d0,d1⟩:=zeg PA.out.pk);have HNE:=Hh (show gp<w9.heap.size∧wr.heap.size<w9.heap.size∧g<w9.heap.size∧∀i,i<k→R i<w9.heap.size from⟨zab P9.out.pk,P9.out.nb.lt,P9.out.pic.ltG.2,fun i hi=>(P9.out.pic.ltR hi).2⟩);have HLO:=Hh (show W0.heap.size≤w9.heap.size from P9.out.rw.bb.size);obtain⟨gs,hgs⟩:∃g,g=w9.heap.size:=⟨_,rfl⟩;rw[←hgs] at OA HNE HLO ⊢;clear hgs;obtain⟨gz,hgz⟩:∃g,g=wr.heap.size:=⟨_,rfl⟩;obtain⟨M,hM⟩:∃M,M=picM (den q n) X Y:=⟨_,rfl⟩;have PB:=PA.out;rw[←hgz] at PB HNE ⊢;rw[←hM] at PB HPB;clear hgz;have HMM:=Hh hM;have PC:=Hh PB;clear hM PB PA;go_loopw [77,14,15] (fun z1 z2 z3 wr=>∃(j:Nat) (v2 v3:Value),z1=.int .i64 j∧z2=v2∧z3=v3∧j≤k∧RwP W0 (some ⟨bb,off,none⟩) n cq q w.heap.size (w.heap.size+1) b X Y wide k gp g wide k R z gz M wr∧wr.ownsRow gs 9 1 (.slice (some ⟨gs,0,none⟩) k k) k (sRow M wide k j)) (fun z1 _ _ _=>k-(intOf z1).toNat)
    case atStart=>exact⟨0,_,_,rfl,rfl,rfl,Nat.zero_le _,PC.out,by rw[zry];exact OA.out⟩
    case round =>
     obtain⟨j,v2,v3,rfl,rfl,rfl,hj,hp,ho⟩:=hrel;clear d0 d1 PC;have kw:IntKind.i64.wrap ((j:Int)+1)=(j:Int)+1:=IntWalk.i64_in _ (by omega);by_cases hjk:j<k
     ·have r0:=hp.pic.at_ hjk hjk
      have hcv:=zud hp.pic hjk HPB.out;have s0:wr.cell? ⟨gs,j,none⟩=some (.string ⟨#[]⟩):=by
       rw[ho.cellAt j (by omega)];unfold sRow;rw[List.getElem?_map,List.getElem?_range hjk];show some (if j<j then _ else _)=_;rw[if_neg (by omega)];rfl
      have s1:=ho.frozenAt j;have j1:(j:Int)<(k:Int):=by omega
      obtain⟨h1,h2⟩:=ho.stored j (strV (strM M j wide));rw[zuc M wide k hjk] at h1;have HO:=Hh h1;have HP:=Hh (hp.set (p:=⟨gs,j,none⟩) HLO.out (by have:=HNE.out.2.2.1;show gs≠g;omega) (fun i hi=>by have:=HNE.out.2.2.2 i hi;show gs≠R i;omega) (by have:=HNE.out.1;show gp≠gs;omega) (by have:=HNE.out.2.1;show gz≠gs;omega) (strV (strM M j wide)));have HJ:=Hh hjk;clear hp ho h1 h2 hjk hj;go_wp2_with fail;go_roundw
      case rel=>exact⟨j+1,_,_,by go_num,rfl,rfl,by have:=HJ.out;omega,HP.out,HO.out⟩
      case measure=>have:=HJ.out;simp[intOf];omega
     ·have e:j=k:=by omega
      subst e;rw[zub] at ho;have HO:=Hh ho;have HP:=Hh hp;clear hp ho hjk hj;go_wp2_with fail;go_ret;refine⟨some ⟨gs,0,none⟩,j,rfl,⟨fun r hr=>?_,?_⟩,fun e=>(by cases e),(HB0.out.trans (HP.out.rw.bb.mono (by have:=HW0.out;omega)))⟩
      ·rw[←HMM.out] at hr;obtain⟨i,hi,rfl⟩:=List.mem_map.1 hr;rw[zbP];unfold maxLen;omega
      ·rw[←HMM.out];exact Rd.own HO.out
structure Gr where
 x:Bw
 y:Bw
 a:Option Addr
 c:Nat
 L:List (List UInt8)
def gr0:Gr:=⟨bw0,bw0,none,0,[]⟩
abbrev Gr.val (u:Gr):Value:=.agg #[.bool u.x.s,.slice u.x.a u.x.xs.length u.x.c,.bool u.y.s,.slice u.y.a u.y.xs.length u.y.c,.slice u.a u.L.length u.c]
abbrev Gr.obj (u:Gr):Obj:=.cells #[.bool u.x.s,.slice u.x.a u.x.xs.length u.x.c,.bool u.y.s,.slice u.y.a u.y.xs.length u.y.c,.slice u.a u.L.length u.c] 71
structure Gr.R (u:Gr)(W:World)(X Y:Int):Prop where
 x:u.x.R W X
 y:u.y.R W Y
 t:Ts W u.a u.c u.L
theorem Gr.R.next {u:Gr}{W W1:World}{X Y:Int}(h:u.R W X Y)(k:Below W.heap.size W W1):u.R W1 X Y:=⟨h.x.next k,h.y.next k,h.t.below k⟩
theorem zkP (W:World):gr0.R W 0 0:=⟨zhp W,zhp W,Ts.nil W⟩
theorem Gr.cells {W:World}{g:Nat}{u:Gr}(h:W.heap[g]?=some u.obj):W.cell? ⟨g,0,none⟩=some (.bool u.x.s)∧W.cell? ⟨g,1,none⟩=some (.slice u.x.a u.x.xs.length u.x.c)∧W.cell? ⟨g,2,none⟩=some (.bool u.y.s)∧W.cell? ⟨g,3,none⟩=some (.slice u.y.a u.y.xs.length u.y.c)∧W.cell? ⟨g,4,none⟩=some (.slice u.a u.L.length u.c) :=
 ⟨(cell_of_row W g 0 _ _ (0,0) h).trans rfl,(cell_of_row W g 1 _ _ (0,0) h).trans rfl,(cell_of_row W g 2 _ _ (0,0) h).trans rfl,(cell_of_row W g 3 _ _ (0,0) h).trans rfl,(cell_of_row W g 4 _ _ (0,0) h).trans rfl⟩
theorem Gr.free {W:World}{g:Nat}{u:Gr}(h:W.heap[g]?=some u.obj):W.frozen? ⟨g,0,none⟩=false∧W.frozen? ⟨g,1,none⟩=false∧W.frozen? ⟨g,2,none⟩=false∧W.frozen? ⟨g,3,none⟩=false∧W.frozen? ⟨g,4,none⟩=false :=
 ⟨frozen_of_row W g 0 _ _ h,frozen_of_row W g 1 _ _ h,frozen_of_row W g 2 _ _ h,frozen_of_row W g 3 _ _ h,frozen_of_row W g 4 _ _ h⟩
abbrev putG (W:World)(g:Nat)(u:Gr):World:=((((W.setCell ⟨g,0,none⟩ (.bool u.x.s)).setCell ⟨g,1,none⟩ (.slice u.x.a u.x.xs.length u.x.c)).setCell ⟨g,2,none⟩ (.bool u.y.s)).setCell ⟨g,3,none⟩ (.slice u.y.a u.y.xs.length u.y.c)).setCell ⟨g,4,none⟩ (.slice u.a u.L.length u.c)
theorem zfE {W:World}{g:Nat}{a:Gr}(h:W.heap[g]?=some a.obj)(u:Gr):(putG W g u).heap[g]?=some u.obj :=
 (heap_setCell_same _ _ 4 _ _ _ ((heap_setCell_same _ _ 3 _ _ _ ((heap_setCell_same _ _ 2 _ _ _ ((heap_setCell_same _ _ 1 _ _ _ ((heap_setCell_same W _ 0 _ _ _ h).trans rfl)).trans rfl)).trans rfl)).trans rfl)).trans rfl
theorem zgs {W:World}{g k:Nat}(hk:k≠g)(u:Gr):(putG W g u).heap[k]?=W.heap[k]? :=
 (((((Below.heap_setCell _ _ _ _ hk)).trans (Below.heap_setCell _ _ _ _ hk)).trans (Below.heap_setCell _ _ _ _ hk)).trans (Below.heap_setCell _ _ _ _ hk)).trans (Below.heap_setCell _ _ _ _ hk)
theorem zkQ (W:World)(g:Nat)(u:Gr):(putG W g u).heap.size=W.heap.size:=by simp[putG,World.setCell]
theorem zcj {B:Nat}{w W:World}(h:Below B w W){g:Nat}(hg:B≤g)(u:Gr):Below B w (putG W g u) :=
 (((((h.setCell (p:=⟨g,0,none⟩) hg _).setCell (p:=⟨g,1,none⟩) hg _).setCell (p:=⟨g,2,none⟩) hg _).setCell (p:=⟨g,3,none⟩) hg _).setCell (p:=⟨g,4,none⟩) hg _)
theorem zrz {W:World}{g:Nat}{u:Gr}(h:W.heap[g]?=some u.obj):∀o x,W.cell? ⟨g,o,none⟩=some x→(∀k,x≠.int .u32 k)∧∀s,x≠.string s:=fun o x hx=>by
 rw[cell_of_row W g _ _ _ _ h] at hx;constructor
 all_goals
  intro k e;subst e
  match o with
  | 0=>simp at hx
  | 1=>simp at hx
  | 2=>simp at hx
  | 3=>simp at hx
  | 4=>simp at hx
  | o+5=>simp at hx
theorem Bw.R.putG {x:Bw}{W:World}{X:Int}(h:x.R W X){g:Nat}{a:Gr}(hb:W.heap[g]?=some a.obj)(u:Gr):x.R (putG W g u) X :=
 ⟨zbt h.us (fun q _ hq=>zgs hq u) (by rw[zkQ];exact Nat.le_refl _) (zbS h.us (fun o v hv=>(zrz hb o v hv).1)),h.cn,h.v⟩
theorem Ts.putG {W:World}{A:Option Addr}{c g:Nat}{L:List (List UInt8)}(h:Ts W A c L){a:Gr}(hb:W.heap[g]?=some a.obj)(u:Gr):Ts (putG W g u) A c L :=
 ⟨h.1,h.2.1,h.2.2.1,fun h0=>by
  obtain⟨b,off,e,hlt,hc⟩:=h.2.2.2 h0;have hne:b≠g:=fun e2=>by
   subst e2;have h1:=hc 0 _ (List.getElem?_eq_getElem h0);rw[List.getElem_map] at h1;exact(zrz hb _ _ h1).2 _ rfl
  refine⟨b,off,e,by rw[zkQ];exact hlt,fun j u' hu=>?_⟩;rw[←hc j u' hu];unfold World.cell?;rw[zgs hne]⟩
theorem Gr.R.putG {v:Gr}{W:World}{X Y:Int}(h:v.R W X Y){g:Nat}{a:Gr}(hb:W.heap[g]?=some a.obj)(u:Gr):v.R (putG W g u) X Y:=⟨h.x.putG hb u,h.y.putG hb u,h.t.putG hb u⟩
def GoI (q:List Nd)(n:Nat)(most er X Y:Int)(L:List (List UInt8)):Prop :=
 ((most<0∨1000<most)∧er=1∧X=0∧Y=0∧L=[]) ∨
 ((0≤most∧most≤1000)∧∃(ok:Bool) (X' Y' V H:Int),BxV q n ok X' Y' V H∧(((most<V∨most<H)∧er=4∧X=0∧Y=0∧L=[])∨((V≤most∧H≤most)∧er=0∧X=X'∧Y=Y'∧L=zbv (picM (den q n) X' Y') V.toNat H.toNat)))
theorem GoI.one {q:List Nd}{n:Nat}{most er X Y er' X' Y':Int}{L L':List (List UInt8)}(h:GoI q n most er X Y L)(k:GoI q n most er' X' Y' L'):er=er'∧X=X'∧Y=Y'∧L=L':=by
 rcases h with⟨h0,rfl,rfl,rfl,rfl⟩|⟨h0,ok,A,B,V,H,hb,h1⟩
 ·rcases k with⟨k0,rfl,rfl,rfl,rfl⟩|⟨k0,-⟩
  ·exact⟨rfl,rfl,rfl,rfl⟩
  ·omega
 ·rcases k with⟨k0,-⟩|⟨k0,ok',A',B',V',H',kb,k1⟩
  ·omega
  ·obtain⟨rfl,rfl,rfl,rfl,rfl⟩:=hb.one kb;rcases h1 with⟨h2,rfl,rfl,rfl,rfl⟩|⟨h2,rfl,rfl,rfl,rfl⟩
   ·rcases k1 with⟨k2,rfl,rfl,rfl,rfl⟩|⟨k2,-⟩
    ·exact⟨rfl,rfl,rfl,rfl⟩
    ·omega
   ·rcases k1 with⟨k2,-⟩|⟨k2,rfl,rfl,rfl,rfl⟩
    ·omega
    ·exact⟨rfl,rfl,rfl,rfl⟩
def zkR (q:List Nd)(n:Nat)(most:Int)(w:World)(e:Ending)(w':World):Prop :=
 ∃(u:Gr) (X Y er:Int),e=.returned (.tuple #[u.val,.int .i64 er])∧u.R w' X Y∧(u.x.xs.length≤50000∧u.y.xs.length≤50000)∧(u.a=none→u.c=0)∧Below w.heap.size w w'∧GoI q n most er X Y u.L
theorem BxV.wide {q:List Nd}(hg:zas q){ok:Bool}{X Y V H:Int}(b:BxV q q.length ok X Y V H):0≤V∧0≤H:=by
 rcases b.cells hg with⟨-,-,-,-,rfl,rfl⟩|⟨-,hc,⟨x,y,h1,-⟩,-⟩
 ·exact⟨Int.le_refl _,Int.le_refl _⟩
 ·have:=hc x y h1;omega
structure Oo (w:World)(A:Option Addr)(n c:Nat)(q:List Nd)(W:World):Prop where
 b:Below w.heap.size w W
 qk:W.heap[w.heap.size]?=some (.cells #[.slice A n c] 27)
 rk:W.heap[w.heap.size+1]?=some gr0.obj
 ns:Ns W A c q
theorem Oo.next {w W W':World}{A:Option Addr}{n c:Nat}{q:List Nd}(h:Oo w A n c q W)(k:Below W.heap.size W W'):Oo w A n c q W' :=
 ⟨h.b.trans (k.mono h.b.size),(k.block _ (zab h.qk)).trans h.qk,(k.block _ (zab h.rk)).trans h.rk,h.ns.below k⟩
theorem Oo.start {w:World}{A:Option Addr}{n c:Nat}{q:List Nd}(h:Ns w A c q):Oo w A n c q ((w.alloc (.cells #[.slice A n c] 27)).alloc gr0.obj):=by
 have b1:=(Below.refl w.heap.size w).alloc (Nat.le_refl _) (.cells #[.slice A n c] 27);have b2:=b1.alloc b1.size gr0.obj;have x2:=heap_alloc_new (w.alloc (.cells #[.slice A n c] 27)) gr0.obj;rw[World.size_alloc] at x2;exact⟨b2,(((Below.refl _ _).alloc (Nat.le_refl _) _).block _ (by rw[World.size_alloc];omega)).trans (heap_alloc_new w _),x2,h.below b2⟩
theorem zwz (A:Option Addr)(c n:Nat)(q:List Nd)(most:Int)(w:World)(h:Ns w A c q)(hn:q.length=n)(hn9:n≤900000)(hg:zas q)(hm : -9223372036854775808≤most∧most≤9223372036854775807)(h1:most<0) :
  Calls Tryz.prog 70 #[.agg #[.slice A n c],.int .i64 most] w (zkR q n most w):=by
 have hcap:=h.cap;rw[hn] at hcap;have HO:=Hh (Oo.start (n:=n) h);have HL:=Hh hn;have HG:=Hh hg;have t1:decide (most<0)=true:=decide_eq_true h1;have hr:=HO.out.rk;obtain⟨e0,e1,e2,e3,e4⟩:=Gr.cells hr;dsimp only[gr0,bw0,List.length_nil] at e0 e1 e2 e3 e4;have HH:=Hh (show most<0∨1000<most by omega);clear h hn hg hr;go_enter Tryz.func70,Tryz.ntmps70;go_wp2_with fail;refine bodyPost_ret (v:=.tuple #[gr0.val,.int .i64 1]) (by simp[results,Tryz.results70,go_sem,e0,e1,e2,e3,e4,gr0,bw0]) rfl ?_;exact⟨gr0,0,0,1,rfl,zkP _,⟨Nat.zero_le _,Nat.zero_le _⟩,fun _=>rfl,HO.out.b,.inl ⟨HH.out,rfl,rfl,rfl,rfl⟩⟩
theorem zwA (A:Option Addr)(c n:Nat)(q:List Nd)(most:Int)(w:World)(h:Ns w A c q)(hn:q.length=n)(hn9:n≤900000)(hg:zas q)(hm : -9223372036854775808≤most∧most≤9223372036854775807)(h1:0≤most)(h2:1000<most) :
  Calls Tryz.prog 70 #[.agg #[.slice A n c],.int .i64 most] w (zkR q n most w):=by
 have hcap:=h.cap;rw[hn] at hcap;have HO:=Hh (Oo.start (n:=n) h);have HL:=Hh hn;have HG:=Hh hg;have t1:decide (most<0)=false:=decide_eq_false (by omega);have t2:decide (most>1000)=true:=decide_eq_true h2;have hr:=HO.out.rk;obtain⟨e0,e1,e2,e3,e4⟩:=Gr.cells hr;dsimp only[gr0,bw0,List.length_nil] at e0 e1 e2 e3 e4;have HH:=Hh (show most<0∨1000<most by omega);clear h hn hg hr;go_enter Tryz.func70,Tryz.ntmps70;go_wp2_with fail;refine bodyPost_ret (v:=.tuple #[gr0.val,.int .i64 1]) (by simp[results,Tryz.results70,go_sem,e0,e1,e2,e3,e4,gr0,bw0]) rfl ?_;exact⟨gr0,0,0,1,rfl,zkP _,⟨Nat.zero_le _,Nat.zero_le _⟩,fun _=>rfl,HO.out.b,.inl ⟨HH.out,rfl,rfl,rfl,rfl⟩⟩
theorem zwB (A:Option Addr)(c n:Nat)(q:List Nd)(most:Int)(w:World)(h:Ns w A c q)(hn:q.length=n)(hn9:n≤900000)(hg:zas q)(hm : -9223372036854775808≤most∧most≤9223372036854775807)(h1:0≤most)(h2:most≤1000) :
  Calls Tryz.prog 70 #[.agg #[.slice A n c],.int .i64 most] w (zkR q n most w):=by
 have hcap:=h.cap;rw[hn] at hcap;have HO:=Hh (Oo.start (n:=n) h);have HL:=Hh hn;have HG:=Hh hg;have t1:decide (most<0)=false:=decide_eq_false (by omega);have t2:decide (most>1000)=false:=decide_eq_false (by omega);have y0:=zaa HO.out.qk;clear h hn hg;go_enter Tryz.func70,Tryz.ntmps70;go_upto_if 18 with(go_at_call 104;go_loud (refine(zra n c A q most _ HO.out.ns HL.out hn9 HG.out hm).mono ?_;rintro e w2 ⟨X,Y,V,H,ok,rfl,bv,b_⟩;have BV:=Hh bv;obtain⟨R,hR⟩:∃R,R=(decide (V≤most)&&decide (H≤most)):=⟨_,rfl⟩;rw[←hR];have HR:=Hh hR;have HO:=Hh (HO.out.next b_);clear b_ bv hR;obtain⟨z0,z1,z2,z3,z4⟩:=Gr.cells HO.out.rk;obtain⟨f0,f1,f2,f3,f4⟩:=Gr.free HO.out.rk;have y0:=zaa HO.out.qk;dsimp only[gr0,bw0,List.length_nil] at z0 z1 z2 z3 z4))
 cases R with
 | false =>
  have hlim:most<V∨most<H:=by
   have:=HR.out;by_cases a:V≤most
   ·by_cases b:H≤most
    ·rw[decide_eq_true a,decide_eq_true b] at this;cases this
    ·omega
   ·omega
  have HLM:=Hh hlim;clear hlim;go_wp2_with fail;have QV:=zfE HO.out.rk gr0;obtain⟨e0,e1,e2,e3,e4⟩:=Gr.cells QV;dsimp only[gr0,bw0,putG,List.length_nil] at e0 e1 e2 e3 e4;refine bodyPost_ret (v:=.tuple #[gr0.val,.int .i64 4]) (by simp[results,Tryz.results70,go_sem,e0,e1,e2,e3,e4,gr0,bw0]) rfl ?_;exact⟨gr0,0,0,4,rfl,(zkP _),⟨Nat.zero_le _,Nat.zero_le _⟩,fun _=>rfl,zcj HO.out.b (by omega) gr0,.inr ⟨⟨h1,h2⟩,ok,X,Y,V,H,BV.out,.inl ⟨HLM.out,rfl,rfl,rfl,rfl⟩⟩⟩
 | true =>
  have hlim:V≤most∧H≤most:=by
   have:=HR.out.symm;rw[Bool.and_eq_true,decide_eq_true_iff,decide_eq_true_iff] at this;exact this
  have HLM:=Hh hlim;clear hlim;go_upto_if 26 with(go_at_call 105;go_loud (refine(zqZ n c A q _ HO.out.ns HL.out hn9 HG.out).mono ?_;rintro e w3 ⟨u,X2,Y2,V2,H2,ok2,rfl,ru,su,b_,bv⟩;have hal:=(Below.refl w3.heap.size w3).alloc (Nat.le_refl _) u.obj;have BV2:=Hh (show BxV q n ok2 X2 Y2 V2 H2 from bv);have RU:=Hh (ru.next hal);have SU:=Hh su;have HG6:=Hh (show w.heap.size+1<w3.heap.size from zab (HO.out.next b_).rk);have HO:=Hh ((HO.out.next b_).next hal);have UB:=Hh (heap_alloc_new w3 u.obj);clear b_ bv ru su hal z0 z1 z2 z3 z4 f0 f1 f2 f3 f4 y0;obtain⟨z0,z1,z2,z3,z4⟩:=Gr.cells HO.out.rk;obtain⟨f0,f1,f2,f3,f4⟩:=Gr.free HO.out.rk;have y0:=zaa HO.out.qk;dsimp only[gr0,bw0,List.length_nil] at z0 z1 z2 z3 z4))
  obtain⟨hk1,hk2,hk3,hk4,hk5⟩:=BV.out.one BV2.out;have HE:=Hh (And.intro hk1 (And.intro hk2 (And.intro hk3 (And.intro hk4 hk5))));clear hk1 hk2 hk3 hk4 hk5;cases ok2 with
  | false =>
   have hz:X2=0∧Y2=0∧V2=0∧H2=0:=by
    rcases BV2.out with⟨-,-,h⟩|⟨-,h,-⟩
    ·exact h
    ·cases h
   have HZ:=Hh hz;clear hz;go_wp2_with fail;have QV:=zfE HO.out.rk gr0;obtain⟨e0,e1,e2,e3,e4⟩:=Gr.cells QV;dsimp only[gr0,bw0,putG,List.length_nil] at e0 e1 e2 e3 e4;refine bodyPost_ret (v:=.tuple #[gr0.val,.int .i64 0]) (by simp[results,Tryz.results70,go_sem,e0,e1,e2,e3,e4,gr0,bw0]) rfl ?_;refine⟨gr0,0,0,0,rfl,(zkP _),⟨Nat.zero_le _,Nat.zero_le _⟩,fun _=>rfl,zcj HO.out.b (by omega) gr0,.inr ⟨⟨h1,h2⟩,false,X2,Y2,V2,H2,BV2.out,.inr ⟨by have:=HLM.out;have:=HE.out;omega,rfl,HZ.out.1.symm,HZ.out.2.1.symm,?_⟩⟩⟩;rw[HZ.out.2.2.1,HZ.out.2.2.2];rfl
  | true =>
   have hwd:=(show BxV q q.length true X2 Y2 V2 H2 by rw[HL.out];exact BV2.out).wide HG.out;obtain⟨wide,hwide⟩:∃k:Nat,V2=(k:Int):=⟨V2.toNat,by omega⟩;obtain⟨high,hhigh⟩:∃k:Nat,H2=(k:Int):=⟨H2.toNat,by omega⟩;have HWD:=Hh (And.intro hwide hhigh);have hbx:0<n∧BoxT (den q n) (at_ q (n-1)).lv.toNat X2 Y2 V2 H2:=by
    rcases BV2.out with⟨-,h,-⟩|⟨h,-,k⟩
    ·cases h
    ·exact⟨h,k⟩
   have HBX:=Hh hbx;have HMO:=Hh (show(0≤most∧most≤1000)∧V2≤most∧H2≤most by have:=HLM.out;have:=HE.out;omega);clear hwd hwide hhigh hbx;go_wp2_with fail;obtain⟨g6,hg6⟩:∃g,g=w3.heap.size:=⟨_,rfl⟩;obtain⟨W1,hW1⟩:∃W1:World,W1=(w3.alloc u.obj).drew:=⟨_,rfl⟩;have hd:=Below.drew' (Below.refl (w3.alloc u.obj).heap.size (w3.alloc u.obj));have HO1:=Hh (HO.out.next hd);have UB1:=Hh ((hd.block _ (zab UB.out)).trans UB.out);have RU1:=Hh (RU.out.next hd);rw[←hW1] at HO1 UB1 RU1;rw[←hg6] at UB1 HG6 ⊢;refine wp_region_noPanic ?_;refine wp_region_held (S:=fun w'=>w'.cell? ⟨w.heap.size,0,none⟩=some (.slice A n c)∧w'.cell? ⟨g6,0,none⟩=some (.bool u.x.s)∧w'.cell? ⟨g6,1,none⟩=some (.slice u.x.a u.x.xs.length u.x.c)∧w'.cell? ⟨g6,2,none⟩=some (.bool u.y.s)∧w'.cell? ⟨g6,3,none⟩=some (.slice u.y.a u.y.xs.length u.y.c)∧w'.cell? ⟨g6,4,none⟩=some (.bool u.w.s)∧w'.cell? ⟨g6,5,none⟩=some (.slice u.w.a u.w.xs.length u.w.c)∧w'.cell? ⟨g6,6,none⟩=some (.bool u.h.s)∧w'.cell? ⟨g6,7,none⟩=some (.slice u.h.a u.h.xs.length u.h.c)) (by kernel_rfl) ?_;change wpAnyH _ _ _ _ _ _ _ _ (w3.alloc u.obj).drew;rw[←hW1];clear hW1 hg6 hd HO UB RU z0 z1 z2 z3 z4 f0 f1 f2 f3 f4 y0;have hS0:=And.intro (zaa HO1.out.qk) (Xb.cells UB1.out);refine Tk1 (v:=?_) 0 hS0 ?_ ?_;rotate_left
   ·rintro w' ⟨_,_,_,_,_,_,_,_,_⟩;go_simp;first|done|with_reducible rfl|rfl
   simp only[Act.put,LA];refine Tk1 (v:=?_) 1 hS0 ?_ ?_;rotate_left
   ·rintro w' ⟨_,_,_,_,_,_,_,_,_⟩;go_simp;first|done|with_reducible rfl|rfl
   simp only[Act.put,LA];refine Tk1 (v:=?_) 2 hS0 ?_ ?_;rotate_left
   ·rintro w' ⟨_,_,_,_,_,_,_,_,_⟩;go_simp;first|done|with_reducible rfl|rfl
   simp only[Act.put,LA];refine Tk1 (v:=?_) 3 hS0 ?_ ?_;rotate_left
   ·rintro w' ⟨_,_,_,_,_,_,_,_,_⟩;go_simp;first|done|with_reducible rfl|rfl
   simp only[Act.put,LA];refine Tk1 (v:=?_) 4 hS0 ?_ ?_;rotate_left
   ·rintro w' ⟨_,_,_,_,_,_,_,_,_⟩;go_simp;first|done|with_reducible rfl|rfl
   simp only[Act.put,LA];refine Tk1 (v:=?_) 5 hS0 ?_ ?_;rotate_left
   ·rintro w' ⟨_,_,_,_,_,_,_,_,_⟩;go_simp;first|done|with_reducible rfl|rfl
   simp only[Act.put,LA];refine Rd1 6 fun K hK=>?_;go_simp;refine(zoK A n c wide high q u X2 Y2 W1 HO1.out.ns HL.out HBX.out.1 hn9 HG.out (by rw[←HWD.out.1,←HWD.out.2];exact RU1.out) SU.out (by rw[←HWD.out.1,←HWD.out.2];exact HBX.out.2) (by have:=HMO.out;have:=HWD.out;omega) (by have:=HMO.out;have:=HWD.out;omega)).mono ?_;rintro e w8 ⟨ra,rc,rfl,rt,rn,b_⟩;dsimp only;have HO8:=Hh (HO1.out.next b_);have UB8:=Hh ((b_.block _ (zab UB1.out)).trans UB1.out);have RU8:=Hh (RU1.out.next b_);have RT:=Hh rt;have RN:=Hh rn;clear rt rn b_;have hS8:=And.intro (zaa HO8.out.qk) (Xb.cells UB8.out);refine hK.out _ _ hS8 (fun _=>?_);clear hK K;refine Tk1 (v:=?_) 7 hS8 ?_ ?_;rotate_left
   ·rintro w' ⟨_,_,_,_,_,_,_,_,_⟩;go_simp;first|done|with_reducible rfl|rfl
   simp only[Act.put,LA];obtain⟨z0,z1,z2,z3,z4⟩:=Gr.cells HO8.out.rk;obtain⟨f0,f1,f2,f3,f4⟩:=Gr.free HO8.out.rk;dsimp only[gr0,bw0,List.length_nil] at z0 z1 z2 z3 z4;refine Rd1 8 fun K hK=>?_;go_simp;have hrl:(zbv (picM (den q n) X2 Y2) wide high).length=high:=zcW _ _ _;have hg6n:g6≠w.heap.size+1:=fun e=>by have:=HG6.out;omega
   obtain⟨v,hv⟩:∃v:Gr,v=⟨u.x,u.y,ra,rc,zbv (picM (den q n) X2 Y2) wide high⟩:=⟨_,rfl⟩;have hS9:(fun w':World=>w'.cell? ⟨w.heap.size,0,none⟩=some (.slice A n c)∧w'.cell? ⟨g6,0,none⟩=some (.bool u.x.s)∧w'.cell? ⟨g6,1,none⟩=some (.slice u.x.a u.x.xs.length u.x.c)∧w'.cell? ⟨g6,2,none⟩=some (.bool u.y.s)∧w'.cell? ⟨g6,3,none⟩=some (.slice u.y.a u.y.xs.length u.y.c)∧w'.cell? ⟨g6,4,none⟩=some (.bool u.w.s)∧w'.cell? ⟨g6,5,none⟩=some (.slice u.w.a u.w.xs.length u.w.c)∧w'.cell? ⟨g6,6,none⟩=some (.bool u.h.s)∧w'.cell? ⟨g6,7,none⟩=some (.slice u.h.a u.h.xs.length u.h.c)) (putG w8 (w.heap.size+1) v) :=
    And.intro (zaa ((zgs (by omega) v).trans HO8.out.qk)) (Xb.cells ((zgs hg6n v).trans UB8.out))
   rw[hv] at hS9;dsimp only[putG] at hS9;rw[hrl] at hS9;refine hK.out _ _ hS9 (fun _=>?_);clear hK K;refine Tk1 (v:=?_) 9 hS9 ?_ ?_;rotate_left
   ·rintro w' ⟨_,_,_,_,_,_,_,_,_⟩;go_simp;first|done|with_reducible rfl|rfl
   simp only[Act.put,LA];refine wpAnyH_done (by kernel_rfl) ?_ _;refine NoPanic.normal ?_;go_wp2_with fail;have QV:=zfE HO8.out.rk v;obtain⟨e0,e1,e2,e3,e4⟩:=Gr.cells QV;have RV:=Gr.R.putG (v:=v) (u:=v) (W:=w8) (X:=X2) (Y:=Y2) (by rw[hv];exact⟨RU8.out.x,RU8.out.y,RT.out⟩) HO8.out.rk;have hbv:=zcj HO8.out.b (show w.heap.size≤w.heap.size+1 by omega) v;rw[hv] at e0 e1 e2 e3 e4;dsimp only[putG] at e0 e1 e2 e3 e4;rw[hrl] at e0 e1 e2 e3 e4;refine bodyPost_ret (v:=.tuple #[v.val,.int .i64 0]) (by simp[results,Tryz.results70,go_sem,e0,e1,e2,e3,e4,hv,hrl]) rfl ?_;have hL:v.L=zbv (picM (den q n) X2 Y2) wide high:=by rw[hv]
   have hsh:=SU.out;refine⟨v,X2,Y2,0,rfl,?_,?_,?_,?_,.inr ⟨HMO.out.1,true,X2,Y2,V2,H2,BV2.out,.inr ⟨HMO.out.2,rfl,rfl,rfl,?_⟩⟩⟩
   ·rw[hv] at RV ⊢;dsimp only[putG] at RV;rw[hrl] at RV;exact RV
   ·rw[hv];exact⟨hsh.x,hsh.y⟩
   ·rw[hv];exact RN.out
   ·rw[hv] at hbv;dsimp only[putG] at hbv;rw[hrl] at hbv;exact hbv
   ·rw[hL,HWD.out.1,HWD.out.2,Int.toNat_natCast,Int.toNat_natCast]
theorem zwC (A:Option Addr)(c n:Nat)(q:List Nd)(most:Int)(w:World)(h:Ns w A c q)(hn:q.length=n)(hn9:n≤900000)(hg:zas q)(hm : -9223372036854775808≤most∧most≤9223372036854775807) :
  Calls Tryz.prog 70 #[.agg #[.slice A n c],.int .i64 most] w (zkR q n most w):=by
 by_cases h1:most<0
 ·exact zwz A c n q most w h hn hn9 hg hm h1
 ·by_cases h2:1000<most
  ·exact zwA A c n q most w h hn hn9 hg hm (by omega) h2
  ·exact zwB A c n q most w h hn hn9 hg hm (by omega) (by omega)
def zaP (L:List (List UInt8)):Nat:=(tat L 0).length
theorem zrA:zaP []=0:=rfl
def zcM (L:List (List UInt8)):Bool:=decide (zaP L≤1000)&&decide (L.length≤1000)&&L.all (fun r=>decide (r.length=zaP L))
def zbZ (u:Gr):Bool:=zbg u.x.s u.x.xs&&(zbg u.y.s u.y.xs&&zcM u.L)
structure Gr.U (u:Gr)(W:World):Prop where
 x:Us W u.x.a u.x.c u.x.xs
 y:Us W u.y.a u.y.c u.y.xs
 t:Ts W u.a u.c u.L
theorem Gr.U.next {u:Gr}{W W1:World}(h:u.U W)(k:Below W.heap.size W W1):u.U W1:=⟨h.x.below k,h.y.below k,h.t.below k⟩
theorem Gr.R.u {u:Gr}{W:World}{X Y:Int}(h:u.R W X Y):u.U W:=⟨h.x.us,h.y.us,h.t⟩
structure GrB (w:World)(u:Gr)(W:World):Prop where
 b:Below w.heap.size w W
 k:W.heap[w.heap.size]?=some u.obj
 u:u.U W
theorem GrB.start {w:World}{u:Gr}(h:u.U w):GrB w u (w.alloc u.obj) :=
 have hb:=(Below.refl w.heap.size w).alloc (Nat.le_refl _) u.obj
 ⟨hb,heap_alloc_new w _,h.next hb⟩
theorem GrB.next {w W W1:World}{u:Gr}(h:GrB w u W)(k:Below W.heap.size W W1):GrB w u W1:=⟨h.b.trans (k.mono h.b.size),(k.block _ (zab h.k)).trans h.k,h.u.next k⟩
theorem zwD (u:Gr)(n:Nat)(w:World)(h:u.U w)(hn:u.L.length=n) :
  Calls Tryz.prog 97 #[.agg #[.bool u.x.s,.slice u.x.a u.x.xs.length u.x.c,.bool u.y.s,.slice u.y.a u.y.xs.length u.y.c,.slice u.a n u.c]] w fun e w'=>e=.returned (.int .i64 (zaP u.L:Nat))∧Below w.heap.size w w':=by
 have hB:=GrB.start h;have hcap:=h.t.cap;rw[hn] at hcap;obtain⟨c0,c1,c2,c3,c4⟩:=Gr.cells hB.k;have HBB:=Hh hB.b;dsimp only[Gr.obj] at HBB c0 c1 c2 c3 c4;rw[hn] at HBB c0 c1 c2 c3 c4;rcases Nat.eq_zero_or_pos n with h0|h0
 ·subst h0;have hz:u.L=[]:=List.length_eq_zero_iff.1 hn;rw[hz,zrA];clear h hn hB hz;go_enter Tryz.func97,Tryz.ntmps97;go_wp2_with fail;go_ret;exact⟨rfl,HBB.out⟩
 ·obtain⟨bb,off,hA,hbb,hcc⟩:=hB.u.t.at_ (by omega)
  have s0:=hcc 0 (by omega);rw[Nat.add_zero] at s0;unfold strV at s0;dsimp only[Gr.obj] at s0;rw[hn] at s0;have t1:((n:Int)==0)=false:=beq_eq_false_iff_ne.2 (by omega);obtain⟨sz,hsz⟩:∃k,k=zaP u.L:=⟨_,rfl⟩;have hs2:(⟨(tat u.L 0).toArray⟩:ByteArray).size=sz:=by rw[zef,hsz];rfl
  obtain⟨s,hs⟩:∃s:ByteArray,s=⟨(tat u.L 0).toArray⟩:=⟨_,rfl⟩;rw[←hs] at s0 hs2;rw[←hsz];have j0:(0:Int)<(n:Int):=by omega
  rw[hA] at c4 HBB s0 c0 c1 c2 c3 ⊢;clear h hn hcc hs hsz hA hB;go_enter Tryz.func97,Tryz.ntmps97;go_wp2_with fail;go_ret;exact⟨by rw[←hs2];rfl,HBB.out⟩
theorem zbU (u:Gr)(w:World)(h:u.U w) :
  Calls Tryz.prog 97 #[u.val] w fun e w'=>e=.returned (.int .i64 (zaP u.L:Nat))∧Below w.heap.size w w':=zwD u _ w h rfl
theorem zue (u:Gr)(w:World)(h:u.U w)(hlx:u.x.xs.length≤60000)(hly:u.y.xs.length≤60000)(hx:zbg u.x.s u.x.xs=false) :
  Calls Tryz.prog 67 #[u.val] w fun e w'=>e=.returned (.bool false)∧Below w.heap.size w w':=by
 have HB:=Hh (GrB.start h);have hcap:=h.t.cap;obtain⟨c0,c1,c2,c3,c4⟩:=Gr.cells HB.out.k;dsimp only[Gr.obj] at c0 c1 c2 c3 c4;obtain⟨wide,hw⟩:∃k,k=zaP u.L:=⟨_,rfl⟩;have HW:=Hh hw;have q0:True:=trivial;have HRx:=Hh hx;clear h hw hx;go_enter Tryz.func67,Tryz.ntmps67;go_wp2_with (first
  | (have _t:=q0;go_at_call 97;clear _t;go_loud (refine(zbU u _ HB.out.u).mono ?_;rintro e w1 ⟨rfl,b_⟩;rw[←HW.out];have HB:=Hh (HB.out.next b_);clear c0 c1 c2 c3 c4 b_;obtain⟨c0,c1,c2,c3,c4⟩:=Gr.cells HB.out.k;have q1:=q0;clear q0))
  | (have _t:=q1;go_at_call 98;clear _t;go_loud (refine(zay u.x.s u.x.a u.x.c u.x.xs _ HB.out.u.x hlx).mono ?_;rintro e w2 ⟨rfl,b_⟩;rw[HRx.out];have HB:=Hh (HB.out.next b_);clear c0 c1 c2 c3 c4 b_;obtain⟨c0,c1,c2,c3,c4⟩:=Gr.cells HB.out.k;have q2:=q1;clear q1)))
 go_ret;exact⟨rfl,HB.out.b⟩
theorem zuf (u:Gr)(w:World)(h:u.U w)(hlx:u.x.xs.length≤60000)(hly:u.y.xs.length≤60000)(hx:zbg u.x.s u.x.xs=true)(hy:zbg u.y.s u.y.xs=false) :
  Calls Tryz.prog 67 #[u.val] w fun e w'=>e=.returned (.bool false)∧Below w.heap.size w w':=by
 have HB:=Hh (GrB.start h);have hcap:=h.t.cap;obtain⟨c0,c1,c2,c3,c4⟩:=Gr.cells HB.out.k;dsimp only[Gr.obj] at c0 c1 c2 c3 c4;obtain⟨wide,hw⟩:∃k,k=zaP u.L:=⟨_,rfl⟩;have HW:=Hh hw;have q0:True:=trivial;have HRx:=Hh hx;have HRy:=Hh hy;clear h hw hx hy;go_enter Tryz.func67,Tryz.ntmps67;go_wp2_with (first
  | (have _t:=q0;go_at_call 97;clear _t;go_loud (refine(zbU u _ HB.out.u).mono ?_;rintro e w1 ⟨rfl,b_⟩;rw[←HW.out];have HB:=Hh (HB.out.next b_);clear c0 c1 c2 c3 c4 b_;obtain⟨c0,c1,c2,c3,c4⟩:=Gr.cells HB.out.k;have q1:=q0;clear q0))
  | (have _t:=q1;go_at_call 98;clear _t;go_loud (refine(zay u.x.s u.x.a u.x.c u.x.xs _ HB.out.u.x hlx).mono ?_;rintro e w2 ⟨rfl,b_⟩;rw[HRx.out];have HB:=Hh (HB.out.next b_);clear c0 c1 c2 c3 c4 b_;obtain⟨c0,c1,c2,c3,c4⟩:=Gr.cells HB.out.k;have q2:=q1;clear q1))
  | (have _t:=q2;go_at_call 98;clear _t;go_loud (refine(zay u.y.s u.y.a u.y.c u.y.xs _ HB.out.u.y hly).mono ?_;rintro e w3 ⟨rfl,b_⟩;rw[HRy.out];have HB:=Hh (HB.out.next b_);clear c0 c1 c2 c3 c4 b_;obtain⟨c0,c1,c2,c3,c4⟩:=Gr.cells HB.out.k;have q3:=q2;clear q2)))
 go_ret;exact⟨rfl,HB.out.b⟩
theorem zug (u:Gr)(w:World)(h:u.U w)(hlx:u.x.xs.length≤60000)(hly:u.y.xs.length≤60000)(hx:zbg u.x.s u.x.xs=true)(hy:zbg u.y.s u.y.xs=true)(h1:1000<zaP u.L) :
  Calls Tryz.prog 67 #[u.val] w fun e w'=>e=.returned (.bool false)∧Below w.heap.size w w':=by
 have HB:=Hh (GrB.start h);have hcap:=h.t.cap;obtain⟨c0,c1,c2,c3,c4⟩:=Gr.cells HB.out.k;dsimp only[Gr.obj] at c0 c1 c2 c3 c4;obtain⟨wide,hw⟩:∃k,k=zaP u.L:=⟨_,rfl⟩;have HW:=Hh hw;have q0:True:=trivial;have HRx:=Hh hx;have HRy:=Hh hy;have t1:decide ((wide:Int)>1000)=true:=decide_eq_true (by omega);clear h hw hx hy h1;go_enter Tryz.func67,Tryz.ntmps67;go_wp2_with (first
  | (have _t:=q0;go_at_call 97;clear _t;go_loud (refine(zbU u _ HB.out.u).mono ?_;rintro e w1 ⟨rfl,b_⟩;rw[←HW.out];have HB:=Hh (HB.out.next b_);clear c0 c1 c2 c3 c4 b_;obtain⟨c0,c1,c2,c3,c4⟩:=Gr.cells HB.out.k;have q1:=q0;clear q0))
  | (have _t:=q1;go_at_call 98;clear _t;go_loud (refine(zay u.x.s u.x.a u.x.c u.x.xs _ HB.out.u.x hlx).mono ?_;rintro e w2 ⟨rfl,b_⟩;rw[HRx.out];have HB:=Hh (HB.out.next b_);clear c0 c1 c2 c3 c4 b_;obtain⟨c0,c1,c2,c3,c4⟩:=Gr.cells HB.out.k;have q2:=q1;clear q1))
  | (have _t:=q2;go_at_call 98;clear _t;go_loud (refine(zay u.y.s u.y.a u.y.c u.y.xs _ HB.out.u.y hly).mono ?_;rintro e w3 ⟨rfl,b_⟩;rw[HRy.out];have HB:=Hh (HB.out.next b_);clear c0 c1 c2 c3 c4 b_;obtain⟨c0,c1,c2,c3,c4⟩:=Gr.cells HB.out.k;have q3:=q2;clear q2)))
 go_ret;exact⟨rfl,HB.out.b⟩
theorem zuh (u:Gr)(w:World)(h:u.U w)(hlx:u.x.xs.length≤60000)(hly:u.y.xs.length≤60000)(hx:zbg u.x.s u.x.xs=true)(hy:zbg u.y.s u.y.xs=true)(h1:zaP u.L≤1000)(h2:1000<u.L.length) :
  Calls Tryz.prog 67 #[u.val] w fun e w'=>e=.returned (.bool false)∧Below w.heap.size w w':=by
 have HB:=Hh (GrB.start h);have hcap:=h.t.cap;obtain⟨c0,c1,c2,c3,c4⟩:=Gr.cells HB.out.k;dsimp only[Gr.obj] at c0 c1 c2 c3 c4;obtain⟨wide,hw⟩:∃k,k=zaP u.L:=⟨_,rfl⟩;have HW:=Hh hw;have q0:True:=trivial;have HRx:=Hh hx;have HRy:=Hh hy;have t1:decide ((wide:Int)>1000)=false:=decide_eq_false (by omega);have t2:decide ((u.L.length:Int)>1000)=true:=decide_eq_true (by omega);clear h hw hx hy h1 h2;go_enter Tryz.func67,Tryz.ntmps67;go_wp2_with (first
  | (have _t:=q0;go_at_call 97;clear _t;go_loud (refine(zbU u _ HB.out.u).mono ?_;rintro e w1 ⟨rfl,b_⟩;rw[←HW.out];have HB:=Hh (HB.out.next b_);clear c0 c1 c2 c3 c4 b_;obtain⟨c0,c1,c2,c3,c4⟩:=Gr.cells HB.out.k;have q1:=q0;clear q0))
  | (have _t:=q1;go_at_call 98;clear _t;go_loud (refine(zay u.x.s u.x.a u.x.c u.x.xs _ HB.out.u.x hlx).mono ?_;rintro e w2 ⟨rfl,b_⟩;rw[HRx.out];have HB:=Hh (HB.out.next b_);clear c0 c1 c2 c3 c4 b_;obtain⟨c0,c1,c2,c3,c4⟩:=Gr.cells HB.out.k;have q2:=q1;clear q1))
  | (have _t:=q2;go_at_call 98;clear _t;go_loud (refine(zay u.y.s u.y.a u.y.c u.y.xs _ HB.out.u.y hly).mono ?_;rintro e w3 ⟨rfl,b_⟩;rw[HRy.out];have HB:=Hh (HB.out.next b_);clear c0 c1 c2 c3 c4 b_;obtain⟨c0,c1,c2,c3,c4⟩:=Gr.cells HB.out.k;have q3:=q2;clear q2)))
 go_ret;exact⟨rfl,HB.out.b⟩
theorem zwE {L:List (List UInt8)}{k:Nat}(hk:k<L.length)(h:¬ (tat L k).length=zaP L):zcM L=false:=by
 unfold zcM;rw[Bool.and_eq_false_iff];right;rw[List.all_eq_false];refine⟨L[k],List.getElem_mem hk,?_⟩;unfold tat at h;rw[List.getElem?_eq_getElem hk] at h;rw[decide_eq_true_iff];exact h
theorem zui {L:List (List UInt8)}(h1:zaP L≤1000)(h2:L.length≤1000)(h:∀i,i<L.length→(tat L i).length=zaP L):zcM L=true:=by
 unfold zcM;rw[decide_eq_true h1,decide_eq_true h2];refine List.all_eq_true.2 fun r hr=>?_;obtain⟨i,hi,rfl⟩:=List.getElem_of_mem hr;have:=h i hi;unfold tat at this;rw[List.getElem?_eq_getElem hi] at this;exact decide_eq_true this
theorem zmi (u:Gr)(w:World)(h:u.U w)(hlx:u.x.xs.length≤60000)(hly:u.y.xs.length≤60000)(hx:zbg u.x.s u.x.xs=true)(hy:zbg u.y.s u.y.xs=true)(h1:zaP u.L≤1000)(h2:u.L.length≤1000) :
  Calls Tryz.prog 67 #[u.val] w fun e w'=>e=.returned (.bool (zcM u.L))∧Below w.heap.size w w':=by
 have HB:=Hh (GrB.start h);have hcap:=h.t.cap;obtain⟨c0,c1,c2,c3,c4⟩:=Gr.cells HB.out.k;dsimp only[Gr.obj] at c0 c1 c2 c3 c4;obtain⟨wide,hw⟩:∃k,k=zaP u.L:=⟨_,rfl⟩;have HW:=Hh hw;have q0:True:=trivial;have HRx:=Hh hx;have HRy:=Hh hy;have t1:decide ((wide:Int)>1000)=false:=decide_eq_false (by omega);have t2:decide ((u.L.length:Int)>1000)=false:=decide_eq_false (by omega);obtain⟨R,hR⟩:∃R,R=zcM u.L:=⟨_,rfl⟩;rw[←hR];have HRR:=Hh hR;have H12:=Hh (And.intro h1 h2);rcases Nat.eq_zero_or_pos u.L.length with h0|h0
 ·have hz:u.L=[]:=List.length_eq_zero_iff.1 h0;have hr:R=true:=by rw[hR,hz];rfl
  subst hr;have t3:decide ((0:Int)<(u.L.length:Int))=false:=decide_eq_false (by omega);have t4:decide (0<u.L.length)=false:=decide_eq_false (by omega);have t5:(0<u.L.length)=False:=eq_false (by omega);clear h hw hx hy h1 h2 hR hz h0;go_enter Tryz.func67,Tryz.ntmps67;go_wp2_with (first
   | (have _t:=q0;go_at_call 97;clear _t;go_loud (refine(zbU u _ HB.out.u).mono ?_;rintro e w1 ⟨rfl,b_⟩;rw[←HW.out];have HB:=Hh (HB.out.next b_);clear c0 c1 c2 c3 c4 b_;obtain⟨c0,c1,c2,c3,c4⟩:=Gr.cells HB.out.k;have q1:=q0;clear q0))
   | (have _t:=q1;go_at_call 98;clear _t;go_loud (refine(zay u.x.s u.x.a u.x.c u.x.xs _ HB.out.u.x hlx).mono ?_;rintro e w2 ⟨rfl,b_⟩;rw[HRx.out];have HB:=Hh (HB.out.next b_);clear c0 c1 c2 c3 c4 b_;obtain⟨c0,c1,c2,c3,c4⟩:=Gr.cells HB.out.k;have q2:=q1;clear q1))
   | (have _t:=q2;go_at_call 98;clear _t;go_loud (refine(zay u.y.s u.y.a u.y.c u.y.xs _ HB.out.u.y hly).mono ?_;rintro e w3 ⟨rfl,b_⟩;rw[HRy.out];have HB:=Hh (HB.out.next b_);clear c0 c1 c2 c3 c4 b_;obtain⟨c0,c1,c2,c3,c4⟩:=Gr.cells HB.out.k;have q3:=q2;clear q2)))
  go_loopw [31,5] (fun z1 z2 wr=>∃(v:Value),z1=.int .i64 0∧z2=v∧GrB w u wr) (fun z1 _ _=>0)
  case atStart=>exact⟨_,rfl,rfl,HB.out⟩
  case round =>
   obtain⟨v,rfl,rfl,hb⟩:=hrel;have HB2:=Hh hb;clear hb;go_wp2_with fail;go_ret;exact⟨rfl,HB2.out.b⟩
 ·obtain⟨bb,off,hA,hbb,hcc⟩:=h.t.at_ h0
  have HA:=Hh hA;clear h hw hx hy h1 h2 hR hbb hcc hA;go_enter Tryz.func67,Tryz.ntmps67;go_wp2_with (first
   | (have _t:=q0;go_at_call 97;clear _t;go_loud (refine(zbU u _ HB.out.u).mono ?_;rintro e w1 ⟨rfl,b_⟩;rw[←HW.out];have HB:=Hh (HB.out.next b_);clear c0 c1 c2 c3 c4 b_;obtain⟨c0,c1,c2,c3,c4⟩:=Gr.cells HB.out.k;rw[HA.out] at c4;have q1:=q0;clear q0))
   | (have _t:=q1;go_at_call 98;clear _t;go_loud (refine(zay u.x.s u.x.a u.x.c u.x.xs _ HB.out.u.x hlx).mono ?_;rintro e w2 ⟨rfl,b_⟩;rw[HRx.out];have HB:=Hh (HB.out.next b_);clear c0 c1 c2 c3 c4 b_;obtain⟨c0,c1,c2,c3,c4⟩:=Gr.cells HB.out.k;rw[HA.out] at c4;have q2:=q1;clear q1))
   | (have _t:=q2;go_at_call 98;clear _t;go_loud (refine(zay u.y.s u.y.a u.y.c u.y.xs _ HB.out.u.y hly).mono ?_;rintro e w3 ⟨rfl,b_⟩;rw[HRy.out];have HB:=Hh (HB.out.next b_);clear c0 c1 c2 c3 c4 b_;obtain⟨c0,c1,c2,c3,c4⟩:=Gr.cells HB.out.k;rw[HA.out] at c4;have q3:=q2;clear q2)))
  go_loopw [31,5] (fun z1 z2 wr=>∃(k:Nat) (v:Value),z1=.int .i64 k∧z2=v∧k≤u.L.length∧(∀i,i<k→(tat u.L i).length=wide)∧GrB w u wr) (fun z1 _ _=>u.L.length-(intOf z1).toNat)
  case atStart=>exact⟨0,_,rfl,rfl,Nat.zero_le _,fun i hi=>by omega,HB.out⟩
  case round =>
   obtain⟨k,v,rfl,rfl,hk,hall,hb⟩:=hrel;clear HB c0 c1 c2 c3 c4;have HB:=Hh hb;have HAL:=Hh hall;have kw:IntKind.i64.wrap ((k:Int)+1)=(k:Int)+1:=IntWalk.i64_in _ (by have:=H12.out;omega);by_cases hlt:k<u.L.length
   ·obtain⟨b2,o2,hA2,-,hcc⟩:=hb.u.t.at_ (by omega)
    rw[HA.out] at hA2;injection hA2 with hA2
    injection hA2 with e1 e2
    subst e1;subst e2;have s0:=hcc k hlt;unfold strV at s0;obtain⟨sz,hsz⟩:∃z,z=(tat u.L k).length:=⟨_,rfl⟩;have hs2:(⟨(tat u.L k).toArray⟩:ByteArray).size=sz:=by rw[zef,hsz]
    obtain⟨s,hs⟩:∃s:ByteArray,s=⟨(tat u.L k).toArray⟩:=⟨_,rfl⟩;rw[←hs] at s0 hs2;have j1:(k:Int)<(u.L.length:Int):=by omega
    by_cases he:sz=wide
    ·have u1:((s.size:Int)!=(wide:Int))=false:=by rw[hs2,he];exact bne_self_eq_false _
     have HK:=Hh (show ∀i,i<k+1→(tat u.L i).length=wide from fun i hi=>by
      rcases Nat.lt_or_ge i k with h3|h3
      ·exact hall i h3
      ·rw[show i=k by omega,←hsz,he])
     have HJ:=Hh hlt;clear hcc hs2 hs hsz hall hb hlt he;go_wp2_with fail;go_roundw
     case rel=>exact⟨k+1,_,by go_num,rfl,by have:=HJ.out;omega,HK.out,HB.out⟩
     case measure=>have:=HJ.out;simp[intOf];omega
    ·have u1:((s.size:Int)!=(wide:Int))=true:=by rw[hs2,bne_iff_ne];omega
     have hr:R=false:=by rw[HRR.out];exact zwE hlt (by rw[←hsz,←HW.out];exact he)
     subst hr;clear hcc hs2 hs hsz hall hb hlt he;go_wp2_with fail;go_ret;exact⟨rfl,HB.out.b⟩
   ·have e:k=u.L.length:=by omega
    have hr:R=true:=by rw[HRR.out];exact zui H12.out.1 H12.out.2 (fun i hi=>by rw[←HW.out];exact hall i (by omega))
    subst hr;have t9:decide ((k:Int)<(u.L.length:Int))=false:=decide_eq_false (by omega);clear hall hb e;go_wp2_with fail;go_ret;exact⟨rfl,HB.out.b⟩
theorem ziD (u:Gr)(w:World)(h:u.U w)(hlx:u.x.xs.length≤60000)(hly:u.y.xs.length≤60000) :
  Calls Tryz.prog 67 #[u.val] w fun e w'=>e=.returned (.bool (zbZ u))∧Below w.heap.size w w':=by
 unfold zbZ;cases hx:zbg u.x.s u.x.xs with
 | false=>exact zue u w h hlx hly hx
 | true =>
  cases hy:zbg u.y.s u.y.xs with
  | false=>exact zuf u w h hlx hly hx hy
  | true =>
   by_cases h1:zaP u.L≤1000
   ·by_cases h2:u.L.length≤1000
    ·exact zmi u w h hlx hly hx hy h1 h2
    ·rw[show zcM u.L=false by unfold zcM;rw[decide_eq_false h2];simp];exact zuh u w h hlx hly hx hy h1 (by omega)
   ·rw[show zcM u.L=false by unfold zcM;rw[decide_eq_false h1];simp];exact zug u w h hlx hly hx hy (by omega)
end Go.Proofs.YtbabbmdpgpcgjaaGreatDoor
