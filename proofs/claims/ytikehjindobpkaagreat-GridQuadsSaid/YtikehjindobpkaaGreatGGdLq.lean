import Derived.Test.YtikehjindobpkaaGreatGGdLo

set_option linter.unusedVariables false
set_option linter.unusedSimpArgs false
set_option maxRecDepth 100000
set_option maxHeartbeats 6400000
namespace Go.Proofs.YtikehjindobpkaaGreat
open Go.ChangeShapes Go.WideShapes Go.ChangeAt Go.RowKit Go.Deep Num Nds
theorem znI:Tryz.prog.cellsOf 9=1:=by kernel_rfl
theorem znJ:Tryz.prog.cellsOf 34=5:=by kernel_rfl
theorem znK:Tryz.prog.cellsOf 32=1:=by kernel_rfl
theorem zmy {P:Nat→List UInt8→Prop}:∀n,(∀i,i<n→∃y,P i y)→∃l:List (List UInt8),l.length=n∧∀i,i<n→P i (tat l i)
 | 0,_=>⟨[],rfl,fun i hi=>by omega⟩
 | n+1,h=>by
  obtain⟨l,hl,hp⟩:=zmy n (fun i hi=>h i (by omega));obtain⟨y,hy⟩:=h n (by omega);refine⟨l++[y],by simp[hl],fun i hi=>?_⟩;rcases Nat.lt_or_ge i n with h1|h1
  ·have e:tat (l++[y]) i=tat l i:=by
    unfold tat;rw[List.getElem?_append_left (by omega)]
   rw[e];exact hp i h1
  ·have e:tat (l++[y]) i=y:=by
    unfold tat;rw[List.getElem?_append_right (by omega),hl,show i-n=0 by omega];rfl
   rw[e,show i=n by omega];exact hy
theorem zsA {H:Type}{enc:TypeId × Value→H}{W:World}{base fuel:Nat}{v:Value}{y:DataW H × List MemPlace}(hf:DataW.trod enc Tryz.prog W base (fun _=>true) true fuel 32 [v]=some y):∃A c L,v=.slice A (List.length L) c∧Ts W A c L:=by
 obtain⟨a0,len0,cap0,hv⟩:=Joins.slice_form Tryz.underlying32 hf;simp at hv;subst hv;rcases open_slice Tryz.underlying32 hf with⟨hcs,hx⟩|⟨a,len,cap,m,n,D,Pl,hcs,hb,hl,hm,hmm,hx,hi⟩
 ·simp at hcs;obtain⟨rfl,rfl,rfl⟩:=hcs;exact⟨none,0,[],rfl,Ts.nil W⟩
 ·simp at hcs;obtain⟨rfl,rfl,rfl⟩:=hcs;simp only[if_true] at hmm;subst hmm;rw[znI] at hi;obtain⟨L,hll,hp⟩:=zmy (P:=fun i r=>r.length≤maxLen∧W.cells? base (a.add (i*1)) 1=some [strV r]) len0 (fun i hlt=>by
   obtain⟨cs',hc,ht⟩:=hi i (by omega);obtain⟨s,e0,-,hs⟩:=DataW.trod_string Tryz.underlying9 ht;refine⟨s.data.toList,?_,?_⟩
   ·have e:s.data.toList.length=s.size:=ztg s;omega
   ·rw[hc,e0];unfold strV;simp)
  obtain⟨b,off,spot⟩:=a;refine⟨some ⟨b,off,spot⟩,_,L,by rw[hll],⟨fun r hr=>?_,by simp;omega,hm,fun hn=>?_⟩⟩
  ·obtain⟨i,hi2⟩:=List.mem_iff_getElem?.1 hr;have hil:=(List.getElem?_eq_some_iff.1 hi2).1;have:=(hp i (by omega)).1;unfold tat at this;rw[hi2] at this;exact this
  ·rw[List.length_map] at hn;have hcell:∀i,i<L.length→W.cell? ((⟨b,off,spot⟩:Addr).add (i*1))=some (strV (tat L i)):=by
    intro i hil;obtain⟨_,hcl,hat⟩:=World.cells?_some (hp i (by omega)).2;have h0:=hat 0 (by simp);rw[show((⟨b,off,spot⟩:Addr).add (i*1)).add 0=(⟨b,off,spot⟩:Addr).add (i*1) by simp[Addr.add]] at h0;exact h0
   have hspot:spot=none:=by simpa [Addr.add] using World.cell?_spot (hcell 0 hn)
   subst hspot;have hc2:∀i,i<L.length→W.cell? ⟨b,off+i,none⟩=some (strV (tat L i)):=by
    intro i hil;have:=hcell i hil;have hadd:(⟨b,off,none⟩:Addr).add (i*1)=⟨b,off+i,none⟩:=by
     rw[Nat.mul_one];unfold Addr.add;split <;> simp_all
    rwa [hadd] at this
   refine⟨b,off,rfl,World.block_lt_of_cell? W _ (hc2 0 hn),fun j u hu=>?_⟩;rw[List.getElem?_map] at hu;obtain⟨r,hr,rfl⟩:=Option.map_eq_some_iff.1 hu;have hil:=(List.getElem?_eq_some_iff.1 hr).1;rw[hc2 j hil];unfold tat;rw[hr];rfl
theorem zuN {H:Type}{enc:TypeId × Value→H}{W:World}{base fuel:Nat}{cs:List Value}{x:DataW H × List MemPlace}(h:DataW.trod enc Tryz.prog W base (fun _=>true) true fuel 34 cs=some x)(hlt:∀z∈x.2,z.block<W.heap.size) :
  ∃u:Gr,cs=[.bool u.x.s,.slice u.x.a u.x.xs.length u.x.c,.bool u.y.s,.slice u.y.a u.y.xs.length u.y.c,.slice u.a u.L.length u.c]∧u.U W:=by
 obtain⟨xs,n,_,rfl,hlen,hxl,hf⟩:=DataW.trod_struct Tryz.underlying34 h;rw[znJ] at hlen;have h0:DataW.trod enc Tryz.prog W base (fun _=>true) true n 31 ((cs.drop 0).take (Tryz.prog.cellsOf 31))=xs[0]?:=hf 0 _ rfl;have h1:DataW.trod enc Tryz.prog W base (fun _=>true) true n 31 ((cs.drop 2).take (Tryz.prog.cellsOf 31))=xs[1]?:=hf 1 _ rfl;have h2:DataW.trod enc Tryz.prog W base (fun _=>true) true n 32 ((cs.drop 4).take (Tryz.prog.cellsOf 32))=xs[2]?:=hf 2 _ rfl;rw[zdq] at h0 h1;rw[znK] at h2
 match cs,hlen with
 | [v0,v1,v2,v3,v4],_ =>
  match xs,hxl with
  | [y0,y1,y2],_ =>
   have h0':DataW.trod enc Tryz.prog W base (fun _=>true) true n 31 [v0,v1]=some y0:=h0;have h1':DataW.trod enc Tryz.prog W base (fun _=>true) true n 31 [v2,v3]=some y1:=h1;have h2':DataW.trod enc Tryz.prog W base (fun _=>true) true n 32 [v4]=some y2:=h2;obtain⟨s,A,c,us,e0,u0⟩:=ziy h0' (fun z hz=>hlt z (by simp[hz]));obtain⟨t,B,d,vs,e1,u1⟩:=ziy h1' (fun z hz=>hlt z (by simp[hz]));obtain⟨C,f,L,e2,u2⟩:=zsA h2';simp at e0 e1;obtain⟨rfl,rfl⟩:=e0;obtain⟨rfl,rfl⟩:=e1;subst e2;exact⟨⟨⟨s,A,c,us⟩,⟨t,B,d,vs⟩,C,f,L⟩,rfl,⟨u0,u1,u2⟩⟩
theorem zkd {H:Type}{enc:TypeId × Value→H}{W:World}{base b0:Nat}{r:Reach}{v:Value}{d:DataW H}{p:List MemPlace}(hok:Value.okWide Tryz.prog W r b0 34 v)
  (h:DataW.Trod enc Tryz.prog W base (fun _=>true) true 34 v d p) (hlt:∀y∈p,y.block<W.heap.size):∃u:Gr,v=u.val∧u.U W:=by
 obtain⟨cs,rfl,hsz⟩:=okWide_struct Tryz.underlying34 hok;obtain⟨fuel,hf⟩:=h;obtain⟨u,e,hu⟩:=zuN hf hlt;refine⟨u,?_,hu⟩;obtain⟨l⟩:=cs;simp[Value.cells] at e;rw[e]
end Go.Proofs.YtikehjindobpkaaGreat

namespace Go.Proofs.YtikehjindobpkaaGreat
open Go.RowKit Num Nds
theorem zke {u:Gr}(h:zcd u 12):(picL (picS u.L) 0 0 (zaC u.L) u.L.length).length≤600:=by
 have h1:=zdl (picS u.L) 0 0 (zaC u.L) u.L.length;have h2:zaC u.L≤12:=by
  rcases Nat.eq_zero_or_pos u.L.length with h0|h0
  ·rw[List.length_eq_zero_iff.1 h0,zfg];omega
  ·exact h.2.2.2 0 h0
 have h3:zaC u.L*u.L.length≤12*12:=Nat.mul_le_mul h2 h.1;omega
theorem zhm {u:Gr}{m:Nat}(h:zcd u m):(false=false→zcd u m)∧(false=true→¬ zcd u m):=⟨fun _=>h,fun e=>by cases e⟩
theorem zmz {u:Gr}{m:Nat}(h:¬ zcd u m):(true=false→zcd u m)∧(true=true→¬ zcd u m):=⟨fun e=>by(cases e),fun _=>h⟩
theorem znL
  (u v:Gr) (w:World) (hu:u.U w) (hv:v.U w) (s1:¬ zcd u 12) :
  Calls Tryz.prog 4 #[u.val,v.val] w fun e w'=>e=.returned (.bool true)∧Below w.heap.size w w':=by
 have HU:=Hh hu;have HV:=Hh hv;have hc1:=hu.t.cap;have hc2:=hv.t.cap;have SS:=Hh (((Sx.start w).box u.obj).box v.obj);rw[World.size_alloc] at SS;obtain⟨g0,g1,g2,g3,g4⟩:=Gr.cells (SS.out.bx 0 _ _ rfl);obtain⟨k0,k1,k2,k3,k4⟩:=Gr.cells (SS.out.bx 1 _ _ rfl);have q0:True:=trivial;clear hu hv;go_enter Tryz.func4,Tryz.ntmps4;go_wp2_with (first
  | (have _t:=q0;go_at_call 6;clear _t;go_loud (refine(zbm _).mono ?_;rintro e w1 ⟨rfl,b_⟩;have SS:=Hh (SS.out.next b_);clear b_;clear g0 g1 g2 g3 g4 k0 k1 k2 k3 k4;obtain⟨g0,g1,g2,g3,g4⟩:=Gr.cells (SS.out.bx 0 _ _ rfl);obtain⟨k0,k1,k2,k3,k4⟩:=Gr.cells (SS.out.bx 1 _ _ rfl);have q1:=q0;clear q0))
  | (have _t:=q1;go_at_call 14;clear _t;go_loud (refine(zcY u 12 _ (zmz s1) _ (HU.out.next SS.out.b) (by omega)).mono ?_;rintro e w2 ⟨rfl,b_⟩;have SS:=Hh (SS.out.next b_);clear b_;clear g0 g1 g2 g3 g4 k0 k1 k2 k3 k4;obtain⟨g0,g1,g2,g3,g4⟩:=Gr.cells (SS.out.bx 0 _ _ rfl);obtain⟨k0,k1,k2,k3,k4⟩:=Gr.cells (SS.out.bx 1 _ _ rfl);have q2:=q1;clear q1)))
 go_ret;exact⟨rfl,SS.out.b⟩
theorem znM
  (u v:Gr) (w:World) (hu:u.U w) (hv:v.U w) (s1:zcd u 12) (s2:¬ zcd v 12) :
  Calls Tryz.prog 4 #[u.val,v.val] w fun e w'=>e=.returned (.bool true)∧Below w.heap.size w w':=by
 have HU:=Hh hu;have HV:=Hh hv;have hc1:=hu.t.cap;have hc2:=hv.t.cap;have SS:=Hh (((Sx.start w).box u.obj).box v.obj);rw[World.size_alloc] at SS;obtain⟨g0,g1,g2,g3,g4⟩:=Gr.cells (SS.out.bx 0 _ _ rfl);obtain⟨k0,k1,k2,k3,k4⟩:=Gr.cells (SS.out.bx 1 _ _ rfl);have q0:True:=trivial;clear hu hv;go_enter Tryz.func4,Tryz.ntmps4;go_wp2_with (first
  | (have _t:=q0;go_at_call 6;clear _t;go_loud (refine(zbm _).mono ?_;rintro e w1 ⟨rfl,b_⟩;have SS:=Hh (SS.out.next b_);clear b_;clear g0 g1 g2 g3 g4 k0 k1 k2 k3 k4;obtain⟨g0,g1,g2,g3,g4⟩:=Gr.cells (SS.out.bx 0 _ _ rfl);obtain⟨k0,k1,k2,k3,k4⟩:=Gr.cells (SS.out.bx 1 _ _ rfl);have q1:=q0;clear q0))
  | (have _t:=q1;go_at_call 14;clear _t;go_loud (refine(zcY u 12 _ (zhm s1) _ (HU.out.next SS.out.b) (by omega)).mono ?_;rintro e w2 ⟨rfl,b_⟩;have SS:=Hh (SS.out.next b_);clear b_;clear g0 g1 g2 g3 g4 k0 k1 k2 k3 k4;obtain⟨g0,g1,g2,g3,g4⟩:=Gr.cells (SS.out.bx 0 _ _ rfl);obtain⟨k0,k1,k2,k3,k4⟩:=Gr.cells (SS.out.bx 1 _ _ rfl);have q2:=q1;clear q1))
  | (have _t:=q2;go_at_call 14;clear _t;go_loud (refine(zcY v 12 _ (zmz s2) _ (HV.out.next SS.out.b) (by omega)).mono ?_;rintro e w3 ⟨rfl,b_⟩;have SS:=Hh (SS.out.next b_);clear b_;clear g0 g1 g2 g3 g4 k0 k1 k2 k3 k4;obtain⟨g0,g1,g2,g3,g4⟩:=Gr.cells (SS.out.bx 0 _ _ rfl);obtain⟨k0,k1,k2,k3,k4⟩:=Gr.cells (SS.out.bx 1 _ _ rfl);have q3:=q2;clear q2)))
 go_ret;exact⟨rfl,SS.out.b⟩
theorem Sx.last {w W:World}{K:List (Nat × Obj)}{G:List (Gr × Int × Int)}{Q:List (Option Addr × Nat × List Nd)}{u v:Gr}{g3 g4:Nat}{A4 A5:Option Addr}{m4 m5 c4 c5:Nat}(s:Sx w W K G Q)
  (h0:K[0]?=some (w.heap.size,u.obj)) (h1:K[1]?=some (w.heap.size+1,v.obj)) (h2:K[2]?=some (g3,.cells #[.slice A4 m4 c4] 26)) (h3:K[3]?=some (g4,.cells #[.slice A5 m5 c5] 26)) :
  W.cell? ⟨w.heap.size,0,none⟩=some (.bool u.x.s)∧W.cell? ⟨w.heap.size,1,none⟩=some (.slice u.x.a u.x.xs.length u.x.c)∧W.cell? ⟨w.heap.size,2,none⟩=some (.bool u.y.s)∧W.cell? ⟨w.heap.size,3,none⟩=some (.slice u.y.a u.y.xs.length u.y.c)∧W.cell? ⟨w.heap.size,4,none⟩=some (.slice u.a u.L.length u.c) ∧
  W.cell? ⟨w.heap.size+1,0,none⟩=some (.bool v.x.s)∧W.cell? ⟨w.heap.size+1,1,none⟩=some (.slice v.x.a v.x.xs.length v.x.c)∧W.cell? ⟨w.heap.size+1,2,none⟩=some (.bool v.y.s)∧W.cell? ⟨w.heap.size+1,3,none⟩=some (.slice v.y.a v.y.xs.length v.y.c)∧W.cell? ⟨w.heap.size+1,4,none⟩=some (.slice v.a v.L.length v.c) ∧
  W.cell? ⟨g3,0,none⟩=some (.slice A4 m4 c4)∧W.cell? ⟨g4,0,none⟩=some (.slice A5 m5 c5):=by
 obtain⟨a0,a1,a2,a3,a4⟩:=Gr.cells (s.bx 0 _ _ h0);obtain⟨b0,b1,b2,b3,b4⟩:=Gr.cells (s.bx 1 _ _ h1);exact⟨a0,a1,a2,a3,a4,b0,b1,b2,b3,b4,zaa (s.bx 2 _ _ h2),zaa (s.bx 3 _ _ h3)⟩
theorem znN
  (u v:Gr) (w:World) (hu:u.U w) (hv:v.U w) (s1:zcd u 12) (s2:zcd v 12) :
  Calls Tryz.prog 4 #[u.val,v.val] w fun e w'=>e=.returned (.bool true)∧Below w.heap.size w w':=by
 have HU:=Hh hu;have HV:=Hh hv;have hc1:=hu.t.cap;have hc2:=hv.t.cap;have SS:=Hh (((Sx.start w).box u.obj).box v.obj);rw[World.size_alloc] at SS;obtain⟨g0,g1,g2,g3,g4⟩:=Gr.cells (SS.out.bx 0 _ _ rfl);obtain⟨k0,k1,k2,k3,k4⟩:=Gr.cells (SS.out.bx 1 _ _ rfl);have q0:True:=trivial;clear hu hv;obtain⟨RI,hRI⟩:∃R,R=zbb u:=⟨_,rfl⟩;obtain⟨SA,hSA⟩:∃R,R=ziY u v:=⟨_,rfl⟩;have HRI:=Hh hRI;have HSA:=Hh hSA;have u8:(RI==RI)=true:=beq_self_eq_true _;have u9:(SA==SA)=true:=beq_self_eq_true _;clear hRI hSA;go_enter Tryz.func4,Tryz.ntmps4;go_upto_region 7 with(first
  | (have _t:=q0;go_at_call 6;clear _t;go_loud (refine(zbm _).mono ?_;rintro e w1 ⟨rfl,b_⟩;have SS:=Hh (SS.out.next b_);clear b_;clear g0 g1 g2 g3 g4 k0 k1 k2 k3 k4;obtain⟨g0,g1,g2,g3,g4⟩:=Gr.cells (SS.out.bx 0 _ _ rfl);obtain⟨k0,k1,k2,k3,k4⟩:=Gr.cells (SS.out.bx 1 _ _ rfl);have q1:=q0;clear q0))
  | (have _t:=q1;go_at_call 14;clear _t;go_loud (refine(zcY u 12 _ (zhm s1) _ (HU.out.next SS.out.b) (by omega)).mono ?_;rintro e w2 ⟨rfl,b_⟩;have SS:=Hh (SS.out.next b_);clear b_;clear g0 g1 g2 g3 g4 k0 k1 k2 k3 k4;obtain⟨g0,g1,g2,g3,g4⟩:=Gr.cells (SS.out.bx 0 _ _ rfl);obtain⟨k0,k1,k2,k3,k4⟩:=Gr.cells (SS.out.bx 1 _ _ rfl);have q2:=q1;clear q1))
  | (have _t:=q2;go_at_call 14;clear _t;go_loud (refine(zcY v 12 _ (zhm s2) _ (HV.out.next SS.out.b) (by omega)).mono ?_;rintro e w3 ⟨rfl,b_⟩;have SS:=Hh (SS.out.next b_);clear b_;clear g0 g1 g2 g3 g4 k0 k1 k2 k3 k4;obtain⟨g0,g1,g2,g3,g4⟩:=Gr.cells (SS.out.bx 0 _ _ rfl);obtain⟨k0,k1,k2,k3,k4⟩:=Gr.cells (SS.out.bx 1 _ _ rfl);have q3:=q2;clear q2))
  | (have _t:=q3;go_at_call 15;clear _t;go_loud (refine(zfh u _ (HU.out.next SS.out.b) s1.2.1 s1.2.2.1 (fun _=>zke s1)).mono ?_;rintro e w4 ⟨A4,c4,m4,p,er,rfl,l_,n_,-,b_,g_⟩;have GQ:=Hh g_;have L4:=Hh l_;have SS:=Hh (((SS.out.next b_).addQ n_).box (.cells #[.slice A4 m4 c4] 26));clear l_ n_ b_ g_;clear g0 g1 g2 g3 g4 k0 k1 k2 k3 k4;obtain⟨g0,g1,g2,g3,g4⟩:=Gr.cells (SS.out.bx 0 _ _ rfl);obtain⟨k0,k1,k2,k3,k4⟩:=Gr.cells (SS.out.bx 1 _ _ rfl);have y0:=zaa (SS.out.bx 2 _ _ rfl);have q4:=q3;clear q3))
  | (have _t:=q4;go_at_call 16;clear _t;go_loud (refine(zie u _ (HU.out.next SS.out.b) s1.2.1 s1.2.2.1 (by have:=s1.1;omega) (fun _=>zke s1)).mono ?_;rintro e w5 ⟨A5,c5,m5,p9,e9,rfl,l_,n_,-,b_,g_⟩;obtain⟨rfl,rfl⟩:=GQ.out.one g_;have L5:=Hh l_;have SS:=Hh (((SS.out.next b_).addQ n_).box (.cells #[.slice A5 m5 c5] 26));have u6:(er==er)=true:=beq_self_eq_true _;clear l_ n_ b_ g_;clear g0 g1 g2 g3 g4 k0 k1 k2 k3 k4 y0;obtain⟨g0,g1,g2,g3,g4⟩:=Gr.cells (SS.out.bx 0 _ _ rfl);obtain⟨k0,k1,k2,k3,k4⟩:=Gr.cells (SS.out.bx 1 _ _ rfl);have y0:=zaa (SS.out.bx 2 _ _ rfl);have h0:=zaa (SS.out.bx 3 _ _ rfl);have q5:=q4;clear q4)))
 have p0:=SS.out.next (Below.drew' (Below.refl _ _));clear SS g0 g1 g2 g3 g4 k0 k1 k2 k3 k4 y0 h0 q5;go_region_held3 (fun w'=>w'.cell? ⟨w.heap.size,0,none⟩=some (.bool u.x.s)∧w'.cell? ⟨w.heap.size,1,none⟩=some (.slice u.x.a u.x.xs.length u.x.c)∧w'.cell? ⟨w.heap.size,2,none⟩=some (.bool u.y.s)∧w'.cell? ⟨w.heap.size,3,none⟩=some (.slice u.y.a u.y.xs.length u.y.c)∧w'.cell? ⟨w.heap.size,4,none⟩=some (.slice u.a u.L.length u.c)∧w'.cell? ⟨w.heap.size+1,0,none⟩=some (.bool v.x.s)∧w'.cell? ⟨w.heap.size+1,1,none⟩=some (.slice v.x.a v.x.xs.length v.x.c)∧w'.cell? ⟨w.heap.size+1,2,none⟩=some (.bool v.y.s)∧w'.cell? ⟨w.heap.size+1,3,none⟩=some (.slice v.y.a v.y.xs.length v.y.c)∧w'.cell? ⟨w.heap.size+1,4,none⟩=some (.slice v.a v.L.length v.c)∧w'.cell? ⟨w4.heap.size,0,none⟩=some (.slice A4 m4 c4)∧w'.cell? ⟨w5.heap.size,0,none⟩=some (.slice A5 m5 c5))
  (exact Sx.last (by assumption) rfl rfl rfl rfl)
  (first
   | (have _t:=p0;go_at_call 13;clear _t;go_loud (refine(zjv A4 A5 c4 c5 m4 m5 p p _ (p0.qs 0 _ _ _ rfl) (p0.qs 1 _ _ _ rfl) L4.out L5.out).mono ?_;rintro e v0 ⟨rfl,b_⟩;rw[decide_eq_true (rfl:p=p)];have p1:=p0.next b_;clear p0 b_))
   | (have _t:=p1;go_at_call 17;clear _t;go_loud (refine(zef u _ (HU.out.next p1.b) (by have:=s1.2.1;omega) (by have:=s1.2.2.1;omega)).mono ?_;rintro e v1 ⟨rfl,b_⟩;rw[←HRI.out];have p2:=p1.next b_;clear p1 b_))
   | (have _t:=p2;go_at_call 18;clear _t;go_loud (refine(zeu u _ (HU.out.next p2.b) (by have:=s1.1;omega) (by have:=s1.2.1;omega) (by have:=s1.2.2.1;omega)).mono ?_;rintro e v2 ⟨rfl,b_⟩;rw[←HRI.out];have p3:=p2.next b_;clear p2 b_))
   | (have _t:=p3;go_at_call 19;clear _t;go_loud (refine(zhl u v _ (HU.out.next p3.b) (HV.out.next p3.b) (by have:=s1.2.1;omega) (by have:=s1.2.2.1;omega)).mono ?_;rintro e v3 ⟨rfl,b_⟩;rw[←HSA.out];have p4:=p3.next b_;clear p3 b_))
   | (have _t:=p4;go_at_call 12;clear _t;go_loud (refine(zei u v _ (HU.out.next p4.b) (HV.out.next p4.b) (by have:=s1.2.1;omega) (by have:=s1.2.2.1;omega)).mono ?_;rintro e v4 ⟨rfl,b_⟩;rw[←HSA.out];have p5:=p4.next b_;clear p4 b_)))
 go_wp2_with fail;go_ret;exact⟨rfl,p5.b⟩
theorem znO (u v:Gr)(w:World)(hu:u.U w)(hv:v.U w) :
  Calls Tryz.prog 4 #[u.val,v.val] w fun e w'=>e=.returned (.bool true)∧Below w.heap.size w w':=by
 by_cases s1:zcd u 12
 ·by_cases s2:zcd v 12
  ·exact znN u v w hu hv s1 s2
  ·exact znM u v w hu hv s1 s2
 ·exact znL u v w hu hv s1
end Go.Proofs.YtikehjindobpkaaGreat
