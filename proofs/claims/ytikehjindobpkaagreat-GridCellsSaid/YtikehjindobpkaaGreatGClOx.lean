import Derived.Test.YtikehjindobpkaaGreatGClK
import Derived.Test.YtikehjindobpkaaGreatLaid

set_option linter.unusedVariables false
set_option linter.unusedSimpArgs false
set_option maxRecDepth 100000
set_option maxHeartbeats 6400000
namespace Go.Proofs.YtikehjindobpkaaGreat
open Go.RowKit Nds Num
structure CS (w:World)(B:Nat)(v u:Cv)(W:World):Prop where
 g:Gro w W
 lt:B+1<W.heap.size
 bv:CvAt W B 0 v
 bu:CvAt W (B+1) 0 u
 uv:CvU W v
 uu:CvU W u
theorem CS.next {w:World}{B:Nat}{v u:Cv}{W W1:World}(h:CS w B v u W)(k:Gro W W1):CS w B v u W1 :=
 ⟨h.g.trans k,Nat.lt_of_lt_of_le h.lt k.b.size,h.bv.below (k.b.block _ (by have:=h.lt;omega)),h.bu.below (k.b.block _ h.lt),h.uv.below k.b,h.uu.below k.b⟩
theorem CS.new (w:World)(v u:Cv)(h:CvU w v)(k:CvU w u)(t:TypeId):CS w w.heap.size v u ((w.alloc (.cells #[.bool v.sx,.slice v.ax v.xs.length v.cx,.bool v.sy,.slice v.ay v.ys.length v.cy,.int .u8 v.st] t)).alloc (.cells #[.bool u.sx,.slice u.ax u.xs.length u.cx,.bool u.sy,.slice u.ay u.ys.length u.cy,.int .u8 u.st] t)):=by
 have hg:Gro w ((w.alloc (.cells #[.bool v.sx,.slice v.ax v.xs.length v.cx,.bool v.sy,.slice v.ay v.ys.length v.cy,.int .u8 v.st] t)).alloc (.cells #[.bool u.sx,.slice u.ax u.xs.length u.cx,.bool u.sy,.slice u.ay u.ys.length u.cy,.int .u8 u.st] t)):=((Gro.refl w).alloc _).alloc _
 refine⟨hg,by simp,(CvAt.new w v _).below (Below.heap_alloc _ _ _ (by simp)),?_,h.below hg.b,k.below hg.b⟩
 have h1:=CvAt.new (w.alloc (.cells #[.bool v.sx,.slice v.ax v.xs.length v.cx,.bool v.sy,.slice v.ay v.ys.length v.cy,.int .u8 v.st] t)) u t
 rwa [show(w.alloc (.cells #[.bool v.sx,.slice v.ax v.xs.length v.cx,.bool v.sy,.slice v.ay v.ys.length v.cy,.int .u8 v.st] t)).heap.size=w.heap.size+1 by simp] at h1
def cfQ (v u:Cv):Int:=if prtN (val v.ys) (val u.ys)<prtN (val v.xs) (val u.xs) then ordI (ival v.sx v.xs) (ival u.sx u.xs) else ordI (ival v.sy v.ys) (ival u.sy u.ys)
theorem prt_bound {xs ys:List Nat}(hx:Dig xs)(hy:Dig ys)(hl:xs.length≤60000)(kl:ys.length≤60000):prtN (val xs) (val ys)≤1920000:=by
 unfold prtN
 rw[blen_le_iff]
 obtain⟨M,hM⟩:∃M,M=1920000:=⟨_,rfl⟩
 rw[←hM]
 have up:∀{zs:List Nat},Dig zs→zs.length≤60000→val zs<2^M:=fun {zs} hd hz=>by
  refine Nat.lt_of_lt_of_le (val_lt hd) ?_
  rw[show(4294967296:Nat)=2^32 by decide,←Nat.pow_mul];exact Nat.pow_le_pow_right (by decide) (by omega)
 exact Nat.xor_lt_two_pow (up hx hl) (up hy kl)
theorem byQuarter_gro (v u:Cv)(w:World)(h:CvU w v)(k:CvU w u)(hr:CvR v)(kr:CvR u) :
  Calls Tryz.prog 99 #[cvv v,cvv u] w fun e w'=>e=.returned (.int .i64 (cfQ v u))∧Gro w w':=by
 have hv1:=h.1.cap
 have hv2:=h.2.1.cap
 have hu1:=k.1.cap
 have hu2:=k.2.1.cap
 obtain⟨W,hW⟩:∃W:World,W=(w.alloc (.cells #[.bool v.sx,.slice v.ax v.xs.length v.cx,.bool v.sy,.slice v.ay v.ys.length v.cy,.int .u8 v.st] 83)).alloc (.cells #[.bool u.sx,.slice u.ax u.xs.length u.cx,.bool u.sy,.slice u.ay u.ys.length u.cy,.int .u8 u.st] 83):=⟨_,rfl⟩
 have hC:CS w w.heap.size v u W:=by rw[hW];exact CS.new w v u h k _
 have HC:=Lib.hid hC
 have HVR:=Lib.hid hr
 have HUR:=Lib.hid kr
 have b1:=prt_bound h.1.1 k.1.1 hr.2.2.1 kr.2.2.1
 have b2:=prt_bound h.2.1.1 k.2.1.1 hr.2.2.2 kr.2.2.2
 obtain⟨m,hm⟩:∃m,m=prtN (val v.xs) (val u.xs):=⟨_,rfl⟩
 obtain⟨n,hn⟩:∃n,n=prtN (val v.ys) (val u.ys):=⟨_,rfl⟩
 rw[←hm] at b1
 rw[←hn] at b2
 have HM:=Lib.hid hm
 have HN:=Lib.hid hn
 have HW:=Lib.hid hW
 obtain⟨R,hR⟩:∃R,R=cfQ v u:=⟨_,rfl⟩
 rw[←hR]
 have HR:=Lib.hid hR
 clear h k hC hr kr hm hn hW hR
 have st:=HC.out.next ((Gro.refl W).drewN 1)
 obtain⟨c1,c2,c3,c4,-⟩:=st.bv
 obtain⟨d1,d2,d3,d4,-⟩:=st.bu
 have ST:=Lib.hid st
 have q0:True:=trivial
 rw[HW.out] at st c1 c2 c3 c4 d1 d2 d3 d4
 go_enter Tryz.func99,Tryz.ntmps99
 go_wp2_with fail
 go_region_held3 (fun w'=>(w'.cell? ⟨w.heap.size,0,none⟩=some (.bool v.sx)∧w'.cell? ⟨w.heap.size,1,none⟩=some (.slice v.ax v.xs.length v.cx)∧w'.cell? ⟨w.heap.size,2,none⟩=some (.bool v.sy)∧w'.cell? ⟨w.heap.size,3,none⟩=some (.slice v.ay v.ys.length v.cy)) ∧
   (w'.cell? ⟨w.heap.size+1,0,none⟩=some (.bool u.sx)∧w'.cell? ⟨w.heap.size+1,1,none⟩=some (.slice u.ax u.xs.length u.cx)∧w'.cell? ⟨w.heap.size+1,2,none⟩=some (.bool u.sy)∧w'.cell? ⟨w.heap.size+1,3,none⟩=some (.slice u.ay u.ys.length u.cy)))
  (first|go_keep|exact⟨⟨k1,k2,k3,k4⟩,⟨l1,l2,l3,l4⟩⟩)
  (first
  | (go_at_call_of 125 (Value.agg #[Value.bool v.sx,Value.slice v.ax v.xs.length v.cx]);refine(parting_gro _ _ _ _ _ _ _ _ _ (CS.uv (w:=w) (B:=w.heap.size) (v:=v) (u:=u) (by assumption)).1 (CS.uu (w:=w) (B:=w.heap.size) (v:=v) (u:=u) (by assumption)).1 HVR.out.2.2.1 HUR.out.2.2.1).mono ?_;rintro e w1 ⟨rfl,g1⟩;rw[←HM.out];have st1:=CS.next (w:=w) (B:=w.heap.size) (v:=v) (u:=u) (by assumption) g1;obtain⟨k1,k2,k3,k4,-⟩:=st1.bv;obtain⟨l1,l2,l3,l4,-⟩:=st1.bu)
  | (go_at_call_of 125 (Value.agg #[Value.bool v.sy,Value.slice v.ay v.ys.length v.cy]);refine(parting_gro _ _ _ _ _ _ _ _ _ (CS.uv (w:=w) (B:=w.heap.size) (v:=v) (u:=u) (by assumption)).2.1 (CS.uu (w:=w) (B:=w.heap.size) (v:=v) (u:=u) (by assumption)).2.1 HVR.out.2.2.2 HUR.out.2.2.2).mono ?_;rintro e w2 ⟨rfl,g2⟩;rw[←HN.out];have st2:=CS.next (w:=w) (B:=w.heap.size) (v:=v) (u:=u) (by assumption) g2;obtain⟨k1,k2,k3,k4,-⟩:=st2.bv;obtain⟨l1,l2,l3,l4,-⟩:=st2.bu))
 all_goals
  by_cases hc:n<m
  ·have t1:decide ((m:Int)>(n:Int))=true:=decide_eq_true (by omega)
   have HCc:=Lib.hid hc;clear hc;go_wp2_with (go_at_call 55;refine(bcmp_gro _ _ _ _ _ _ _ _ _ (CS.uv (w:=w) (B:=w.heap.size) (v:=v) (u:=u) (by first|exact st2|exact st1)).1 (CS.uu (w:=w) (B:=w.heap.size) (v:=v) (u:=u) (by first|exact st2|exact st1)).1 HVR.out.2.2.1 HUR.out.2.2.1 HVR.out.1 HUR.out.1).mono ?_;rintro e w3 ⟨rfl,g3⟩)
   go_ret
   refine⟨?_,by first|exact(CS.next st2 g3).g|exact(CS.next st1 g3).g⟩
   rw[HR.out];unfold cfQ;rw[←HM.out,←HN.out,if_pos HCc.out]
   rfl
  ·have t1:decide ((m:Int)>(n:Int))=false:=decide_eq_false (by omega)
   have HCc:=Lib.hid hc;clear hc;go_wp2_with (go_at_call 55;refine(bcmp_gro _ _ _ _ _ _ _ _ _ (CS.uv (w:=w) (B:=w.heap.size) (v:=v) (u:=u) (by first|exact st2|exact st1)).2.1 (CS.uu (w:=w) (B:=w.heap.size) (v:=v) (u:=u) (by first|exact st2|exact st1)).2.1 HVR.out.2.2.2 HUR.out.2.2.2 HVR.out.2.1 HUR.out.2.1).mono ?_;rintro e w3 ⟨rfl,g3⟩)
   go_ret
   refine⟨?_,by first|exact(CS.next st2 g3).g|exact(CS.next st1 g3).g⟩
   rw[HR.out];unfold cfQ;rw[←HM.out,←HN.out,if_neg HCc.out]
   rfl
def quaC (v:Cv)(m:Nat):Nat:=qtr m (val v.xs) (val v.ys)
theorem limb_bit {xs:List Nat}(hd:Dig xs)(m:Nat):xs[m / 32]?.getD 0 / 2^(m%32)%2=val xs / 2^m%2:=by
 have h1:=val_testBit hd m
 rw[Nat.testBit_eq_decide_div_mod_eq,Nat.testBit_eq_decide_div_mod_eq] at h1
 have h2:val xs / 2^m%2=1↔xs[m / 32]?.getD 0 / 2^(m%32)%2=1:=by
  constructor
  ·intro h;rw[decide_eq_true h] at h1;exact of_decide_eq_true h1.symm
  ·intro h;rw[decide_eq_true h] at h1;exact of_decide_eq_true h1
 omega
structure C1 (w:World)(v:Cv)(W:World):Prop where
 g:Gro w W
 lt:w.heap.size<W.heap.size
 bv:CvAt W w.heap.size 0 v
 uv:CvU W v
theorem C1.next {w:World}{v:Cv}{W W1:World}(h:C1 w v W)(k:Gro W W1):C1 w v W1 :=
 ⟨h.g.trans k,Nat.lt_of_lt_of_le h.lt k.b.size,h.bv.below (k.b.block _ h.lt),h.uv.below k.b⟩
theorem qua_int {x y p:Nat}(hx:x<4294967296)(hy:y<4294967296) :
  IntKind.i64.wrap (bits .or .u32 (bits .and .u32 ((x:Int) / 2^p) 1) (IntKind.u32.wrap (bits .and .u32 ((y:Int) / 2^p) 1*2)))=((x / 2^p%2+2*(y / 2^p%2):Nat):Int):=by
 have e1:((x:Int) / 2^p)=((x / 2^p:Nat):Int):=by simp
 have e2:((y:Int) / 2^p)=((y / 2^p:Nat):Int):=by simp
 have h1:x / 2^p<4294967296:=Nat.lt_of_le_of_lt (Nat.div_le_self _ _) hx
 have h2:y / 2^p<4294967296:=Nat.lt_of_le_of_lt (Nat.div_le_self _ _) hy
 obtain⟨a,ha⟩:∃a,a=x / 2^p%2:=⟨_,rfl⟩
 obtain⟨b,hb⟩:∃b,b=y / 2^p%2:=⟨_,rfl⟩
 rw[e1,e2,show(1:Int)=((1:Nat):Int) from rfl,u32_and_nat _ _ h1 (by decide),u32_and_nat _ _ h2 (by decide),Nat.and_one_is_mod,Nat.and_one_is_mod,←ha,←hb]
 have ha2:a<2:=by omega
 have hb2:b<2:=by omega
 clear ha hb e1 e2 h1 h2 hx hy
 obtain rfl|rfl:a=0∨a=1:=by omega
 all_goals obtain rfl|rfl:b=0∨b=1:=by omega
 all_goals rfl
theorem quarter_gro (v:Cv)(m:Nat)(w:World)(h:CvU w v)(h1:v.xs.length≤60000)(h2:v.ys.length≤60000)(hm:m≤100000) :
  Calls Tryz.prog 126 #[cvv v,.int .i64 ((m:Int)+1)] w fun e w'=>e=.returned (.int .i64 (quaC v m:Nat))∧Gro w w':=by
 have hv1:=h.1.cap
 have hv2:=h.2.1.cap
 have hd1:=h.1.1
 have hd2:=h.2.1.1
 obtain⟨W,hW⟩:∃W:World,W=w.alloc (.cells #[.bool v.sx,.slice v.ax v.xs.length v.cx,.bool v.sy,.slice v.ay v.ys.length v.cy,.int .u8 v.st] 83):=⟨_,rfl⟩
 have hg:Gro w W:=by rw[hW];exact(Gro.refl w).alloc _
 have hC:C1 w v W:=⟨hg,by rw[hW];simp,by rw[hW];exact CvAt.new w v _,h.below hg.b⟩
 obtain⟨q,hq⟩:∃q,q=m / 32:=⟨_,rfl⟩
 obtain⟨p,hp⟩:∃p,p=m%32:=⟨_,rfl⟩
 have hp9:p<32:=by omega
 have e1:(m:Int) / 32=(q:Int):=by omega
 have e2:(m:Int)%32=(p:Int):=by omega
 obtain⟨x,hx⟩:∃x,x=v.xs[q]?.getD 0:=⟨_,rfl⟩
 obtain⟨y,hy⟩:∃y,y=v.ys[q]?.getD 0:=⟨_,rfl⟩
 have hx9:x<4294967296:=by rw[hx];exact hd1.getD _
 have hy9:y<4294967296:=by rw[hy];exact hd2.getD _
 have hR:quaC v m=x / 2^p%2+2*(y / 2^p%2):=by
  unfold quaC qtr;rw[←limb_bit hd1,←limb_bit hd2,hx,hy,hq,hp]
 obtain⟨R,hRR⟩:∃R,R=quaC v m:=⟨_,rfl⟩
 rw[←hRR] at hR ⊢
 have HR:=Lib.hid hR
 have HW:=Lib.hid hW
 have HX:=Lib.hid hx
 have HY:=Lib.hid hy
 have HQ:=Lib.hid hq
 have HPp:=Lib.hid hp
 have st:=hC.next ((Gro.refl W).drewN 1)
 obtain⟨c1,c2,c3,c4,-⟩:=st.bv
 clear h hg hC hq hp hx hy hR hRR
 rw[HW.out] at st c1 c2 c3 c4
 clear hW
 go_enter Tryz.func126,Tryz.ntmps126
 go_wp2_with fail
 go_region_held3 (fun w'=>w'.cell? ⟨w.heap.size,0,none⟩=some (.bool v.sx)∧w'.cell? ⟨w.heap.size,1,none⟩=some (.slice v.ax v.xs.length v.cx)∧w'.cell? ⟨w.heap.size,2,none⟩=some (.bool v.sy)∧w'.cell? ⟨w.heap.size,3,none⟩=some (.slice v.ay v.ys.length v.cy))
  (first|go_keep|exact⟨k1,k2,k3,k4⟩)
  (first
  | (go_at_call_of 157 (Value.agg #[Value.bool v.sx,Value.slice v.ax v.xs.length v.cx]);refine(at32_gro _ _ _ _ q _ (C1.uv (w:=w) (v:=v) (by assumption)).1 h1).mono ?_;rintro e w1 ⟨rfl,g1⟩;rw[←HX.out];have st1:=C1.next (w:=w) (v:=v) (by assumption) g1;obtain⟨k1,k2,k3,k4,-⟩:=st1.bv)
  | (go_at_call_of 157 (Value.agg #[Value.bool v.sy,Value.slice v.ay v.ys.length v.cy]);refine(at32_gro _ _ _ _ q _ (C1.uv (w:=w) (v:=v) (by assumption)).2.1 h2).mono ?_;rintro e w2 ⟨rfl,g2⟩;rw[←HY.out];have st2:=C1.next (w:=w) (v:=v) (by assumption) g2;obtain⟨k1,k2,k3,k4,-⟩:=st2.bv))
 all_goals
  go_wp2_with fail
  go_ret
  refine⟨ret_int ?_,by first|exact st2.g|exact st1.g⟩
  rw[HR.out];exact qua_int hx9 hy9
end Go.Proofs.YtikehjindobpkaaGreat

namespace Go.Proofs.YtikehjindobpkaaGreat
open Go.RowKit Nds Num Go.Sort
theorem gro_grow {W w':World}(h:Gro W w'):∃q os',w'=grow (W.drewN q) os':=by
 refine⟨w'.drawn-W.drawn,w'.heap.extract W.heap.size w'.heap.size,?_⟩
 have hd:=h.d
 obtain⟨e1,e2,e3,e4,e5⟩:=h.b
 have eh:w'.heap=W.heap++w'.heap.extract W.heap.size w'.heap.size:=by
  apply Array.ext_getElem?
  intro k
  rw[Array.getElem?_append];by_cases hk:k<W.heap.size
  ·rw[if_pos hk];exact e5 k hk
  ·rw[if_neg hk,Array.getElem?_extract];by_cases hk2:k<w'.heap.size
   ·rw[if_pos (by omega),show W.heap.size+(k-W.heap.size)=k by omega]
   ·rw[if_neg (by omega),Array.getElem?_eq_none (by omega)]
 obtain⟨h',t',d',o',p'⟩:=w'
 obtain⟨h0,t0,d0,o0,p0⟩:=W
 simp only at e1 e2 e3 eh hd
 subst e1 e2 e3
 show World.mk h' t' d' o' p'=World.mk (h0++h'.extract h0.size h'.size) t' (d0+(d'-d0)) o' p'
 rw[←eh,Nat.add_sub_cancel' hd]
def encC (v:Cv):List Value:=[.bool v.sx,.slice v.ax v.xs.length v.cx,.bool v.sy,.slice v.ay v.ys.length v.cy,.int .u8 v.st]
def Off (blk:Nat)(v:Cv):Prop:=(0<v.xs.length→∀a,v.ax=some a→a.block≠blk)∧(0<v.ys.length→∀a,v.ay=some a→a.block≠blk)
abbrev SC (w:World)(blk:Nat)(P:Cv→Prop):Type:={ v:Cv // CvU w v∧CvR v∧P v∧Off blk v }
theorem us_kept {w w':World}{blk:Nat}{A:Option Addr}{c:Nat}{xs:List Nat}(h:Us w A c xs)(hk:∀k,k<w.heap.size→k≠blk→w'.heap[k]?=w.heap[k]?)(hs:w.heap.size≤w'.heap.size)(ha:0<xs.length→∀a,A=some a→a.block≠blk):Us w' A c xs:=by
 obtain⟨h1,h2,h3,h4⟩:=h
 refine⟨h1,h2,h3,fun hn=>?_⟩
 obtain⟨b,off,e,hb,hc⟩:=h4 hn
 have hne:b≠blk:=ha (by simpa using hn) _ e
 exact⟨b,off,e,Nat.lt_of_lt_of_le hb hs,fun j u hu=>(World.cell?_of_block (a:=⟨b,off+j,none⟩) (hk b hb hne)).trans (hc j u hu)⟩
theorem cvU_kept {w w':World}{blk:Nat}{v:Cv}(h:CvU w v)(hk:∀k,k<w.heap.size→k≠blk→w'.heap[k]?=w.heap[k]?)(hs:w.heap.size≤w'.heap.size)(ho:Off blk v):CvU w' v :=
 ⟨us_kept h.1 hk hs ho.1,us_kept h.2.1 hk hs ho.2,h.2.2⟩
theorem us_lt {w:World}{A:Option Addr}{c:Nat}{xs:List Nat}(h:Us w A c xs)(hx:0<xs.length):∀a,A=some a→a.block<w.heap.size:=fun a e=>by
 obtain⟨b,off,e',hb,_⟩:=h.at_ hx
 rw[e] at e'
 cases e'
 exact hb
theorem off_of {w:World}{v:Cv}{blk:Nat}(h:CvU w v)(hb:w.heap.size≤blk):Off blk v :=
 ⟨fun hx a e=>by have:=us_lt h.1 hx a e;omega,fun hx a e=>by have:=us_lt h.2.1 hx a e;omega⟩
theorem gbN {w w':World}(h:Below w.heap.size w w'):w.grownBy w' none:=⟨h.os,h.tape,h.output,h.size,fun k hk _=>h.block k hk⟩
theorem heap_put (w:World)(blk:Nat)(d:Array Value)(off:Nat):(putRow id w blk off d).heap.size=w.heap.size∧∀k,k≠blk→(putRow id w blk off d).heap[k]?=w.heap[k]?:=by
 unfold putRow mapBlock
 refine⟨by simp,fun k hk=>?_⟩
 simp only[Array.getElem?_modify]
 rw[if_neg (by omega)]
theorem sortW_grown {α:Type}[Inhabited α](enc:α→List Value)(k:Nat)(w:World)(blk off m:Nat)(dk:Array α)(os:Array Obj):w.grownBy (sortWorldK enc k w blk off m dk os) (some blk):=by
 have hp:=heap_put (Sort.ahead w m) blk (flatK enc k dk) off
 have hs:(putRowK enc k (Sort.ahead w m) blk off dk).heap.size=w.heap.size:=hp.1
 refine⟨rfl,rfl,rfl,?_,fun j hj hne=>?_⟩
 ·unfold sortWorldK;rw[size_grow,hs];omega
 ·show((putRowK enc k (Sort.ahead w m) blk off dk).heap++os)[j]?=_
  rw[Array.getElem?_append,if_pos (by rw[hs];exact hj)]
  exact hp.2 j (fun e=>hne (by rw[e]))
theorem encC_one (v:Cv):∀x∈encC v,x.oneCell'=true:=by
 intro x hx
 simp only[encC,List.mem_cons,List.not_mem_nil,or_false] at hx
 rcases hx with rfl|rfl|rfl|rfl|rfl <;> rfl
theorem cat_get {l:List Cv}{i:Nat}(h:i<l.length):cat l i=l[i]:=by
 unfold cat
 rw[List.getElem?_eq_getElem h]
 rfl
theorem sortC_any (g:Nat)(cf:Cv→Cv→Int)(P:Cv→Prop)(eg:∀args w,(callFunc g args).run Tryz.prog w=.ok (.enter g args) w)
  (hcf:∀(v u:Cv) (W:World),CvU W v→CvU W u→CvR v→CvR u→P v→P u→Calls Tryz.prog g #[cvv v,cvv u] W fun e w'=>e=.returned (.int .i64 (cf v u))∧Gro W w')
  (hO:∀{v u t:Cv},P v→P u→P t→¬ cf v v<0∧(cf v u<0→cf u t<0→cf v t<0)∧(¬ cf v u<0→¬ cf u t<0→¬ cf v t<0))
  (blk n cap:Nat) (l:List Cv) (w:World) (hl:l.length=n) (hn:0<n) (hn9:n≤1000000) (hb:blk<w.heap.size)
  (hc:∀i,i<n→CvAt w blk (i*5) (cat l i)) (hf:∀o,w.frozen? ⟨blk,o,none⟩=false)
  (ha:∀v∈l,CvU w v∧CvR v∧P v∧Off blk v) :
  Calls Tryz.prog 98 #[.slice (some ⟨blk,0,none⟩) n cap,.func (.func g) #[] #[]] w fun e w' =>
   e=.returned (.tuple #[])∧∃l':List Cv,l'.Perm l∧l'.Pairwise (fun a b=>¬ cf b a<0)∧(∀i,i<n→CvAt w' blk (i*5) (cat l' i))∧w.grownBy w' (some blk):=by
 obtain⟨L,hL⟩:∃L:List (SC w blk P),L=l.pmap (fun v h=>⟨v,h⟩) ha:=⟨_,rfl⟩
 have hmap0:L.map Subtype.val=l:=by rw[hL,List.map_pmap];simp
 have hLl:L.length=n:=by rw[←hl,←hmap0,List.length_map]
 letI:Inhabited (SC w blk P):=⟨L[0]'(by omega)⟩
 obtain⟨d,hdd⟩:∃d:Array (SC w blk P),d=L.toArray:=⟨_,rfl⟩
 have hds:d.size=n:=by rw[hdd,List.size_toArray,hLl]
 obtain⟨enc,henc⟩:∃enc:SC w blk P→List Value,enc=fun v=>encC v.1:=⟨_,rfl⟩
 have hval:∀i (h:i<n),(d[i]!).1=cat l i:=fun i h=>by
  subst hdd;rw[getElem!_pos _ i (by rw[List.size_toArray];omega),cat_get (by omega)]
  simp only[List.getElem_toArray,←hmap0,List.getElem_map]
 have hH:HoldsK enc 5 w blk 0 d:=by
  intro j hj
  rw[size_flatK,hds] at hj;rw[get_flatK enc 5 d j (by rw[hds];exact hj)]
  obtain⟨i,c,rfl,hc5⟩:∃i c,j=i*5+c∧c<5:=⟨j / 5,j%5,by omega,by omega⟩
  have hi:i<n:=by omega
  rw[show(i*5+c) / 5=i by omega,show(i*5+c)%5=c by omega,Nat.zero_add];refine⟨?_,hf _⟩
  subst henc;show _=some (encC (d[i]!).1)[c]!
  rw[hval i hi];obtain⟨h0,h1,h2,h3,h4⟩:=hc i hi
  match c,hc5 with
  | 0,_=>exact h0
  | 1,_=>exact h1
  | 2,_=>exact h2
  | 3,_=>exact h3
  | 4,_=>exact h4
 have hcmp:CmpLays Tryz.prog g #[] enc 5 (fun v u:SC w blk P=>cf v.1 u.1) blk 0 d.size w:=by
  intro m os dk hdk v u
  have hg:=sortW_grown enc 5 w blk 0 m dk os
  have hk:∀k,k<w.heap.size→k≠blk→(sortWorldK enc 5 w blk 0 m dk os).heap[k]?=w.heap[k]?:=fun k h1 h2=>hg.block k h1 (fun e=>h2 (by cases e;rfl))
  have h:=hcf v.1 u.1 (sortWorldK enc 5 w blk 0 m dk os) (cvU_kept v.2.1 hk hg.size v.2.2.2.2) (cvU_kept u.2.1 hk hg.size u.2.2.2.2) v.2.2.1 u.2.2.1 v.2.2.2.1 u.2.2.2.1
  have e0:#[Value.agg (enc v).toArray,Value.agg (enc u).toArray]++(#[]:Array Value)=#[cvv v.1,cvv u.1]:=by rw[henc];rfl
  rw[e0];exact h.mono fun e w' ⟨he,hG⟩=>⟨he,gro_grow hG⟩
 have hS:SWO (ltOf fun v u:SC w blk P=>cf v.1 u.1):=by
  refine⟨fun x=>?_,fun x y z h1 h2=>?_,fun x y z h1 h2=>?_⟩
  ·exact decide_eq_false (hO x.2.2.2.1 x.2.2.2.1 x.2.2.2.1).1
  ·exact decide_eq_true ((hO x.2.2.2.1 y.2.2.2.1 z.2.2.2.1).2.1 (of_decide_eq_true h1) (of_decide_eq_true h2))
  ·exact decide_eq_false ((hO x.2.2.2.1 y.2.2.2.1 z.2.2.2.1).2.2 (of_decide_eq_false h1) (of_decide_eq_false h2))
 have hcon:=AnyQ.slices_SortFunc Tryz.sortC 5 Tryz.isAgg83 Tryz.sizeOf83 enc (fun v=>by rw[henc];rfl) (fun v=>by rw[henc];exact encC_one v.1) (fun v u:SC w blk P=>cf v.1 u.1) hS g #[] blk 0 cap d w eg hcmp hH hb (by omega)
 rw[hds] at hcon
 change Calls Tryz.prog 98 _ _ _ at hcon
 refine hcon.mono ?_
 rintro e w' ⟨rfl,d',m,os,hp,hs,rfl⟩
 obtain⟨hsz,-,hperm⟩:=hp
 have hd':d'.size=n:=by rw[hsz,hds]
 have e1:d'.extract 0 n=d':=by rw[←hd'];exact Array.extract_size
 have e2:d.extract 0 n=d:=by rw[←hds];exact Array.extract_size
 rw[e1,e2] at hperm
 have hmap:d.toList.map Subtype.val=l:=by rw[hdd,List.toList_toArray,hmap0]
 have hval':∀i (h:i<n),cat (d'.toList.map Subtype.val) i=(d'[i]!).1:=fun i h=>by
  rw[cat_get (by rw[List.length_map,Array.length_toList];omega),getElem!_pos d' i (by omega),List.getElem_map,Array.getElem_toList]
 refine⟨rfl,d'.toList.map Subtype.val,?_,?_,?_,sortW_grown enc 5 w blk 0 m d' os⟩
 ·have:=hperm.map Subtype.val
  rwa [hmap] at this
 ·refine List.pairwise_map.2 (List.pairwise_iff_getElem.2 fun i j hi hj hij=>?_)
  have hi':i<d'.size:=by rwa [Array.length_toList] at hi
  have hj':j<d'.size:=by rwa [Array.length_toList] at hj
  have h:=hs i j (Nat.zero_le _) hij (by omega)
  rw[Array.getElem_toList,Array.getElem_toList];rw[getElem!_pos d' i hi',getElem!_pos d' j hj'] at h;exact of_decide_eq_false h
 ·intro i hi
  rw[hval' i hi];have hh:=holdsK_sortWorldK_c enc 5 w blk 0 d d' m os hH hb (by rw[hsz])
  have cell:∀c,c<5→(sortWorldK enc 5 w blk 0 m d' os).cell? ⟨blk,i*5+c,none⟩=some (encC (d'[i]!).1)[c]! := fun c h5=>by
   have:=(HoldsK.cell (c:=c) hh (show i<d'.size by omega) h5).1
   rw[Nat.zero_add,henc] at this;rw[henc];exact this
  exact⟨cell 0 (by decide),cell 1 (by decide),cell 2 (by decide),cell 3 (by decide),cell 4 (by decide)⟩
theorem ordI_neg {a b:Int}:ordI a b<0↔a<b:=by
 unfold ordI
 split
 ·constructor <;> intro <;> omega
 ·split
  ·constructor <;> intro <;> omega
  ·constructor <;> intro <;> omega
theorem ordI_zero {a b:Int}:ordI a b=0↔a=b:=by
 unfold ordI
 split
 ·constructor <;> intro <;> omega
 ·split
  ·constructor <;> intro <;> omega
  ·constructor <;> intro <;> omega
theorem ordC_neg {v u:Cv}:ordC v u<0↔ltC v.cl u.cl:=by
 unfold ordC ltC Cv.cl
 dsimp only
 by_cases h:ordI (ival v.sy v.ys) (ival u.sy u.ys)=0
 ·rw[if_pos h,ordI_neg];have:=ordI_zero.1 h
  omega
 ·rw[if_neg h,ordI_neg];have:ival v.sy v.ys≠ival u.sy u.ys:=fun e=>h (ordI_zero.2 e)
  omega
theorem ordC_zero {v u:Cv}:ordC v u=0↔v.cl.x=u.cl.x∧v.cl.y=u.cl.y:=by
 unfold ordC Cv.cl
 dsimp only
 by_cases h:ordI (ival v.sy v.ys) (ival u.sy u.ys)=0
 ·rw[if_pos h,ordI_zero];have:=ordI_zero.1 h
  omega
 ·rw[if_neg h,ordI_zero];have:ival v.sy v.ys≠ival u.sy u.ys:=fun e=>h (ordI_zero.2 e)
  omega
def ordK (l:List Cv)(i j:Nat):Int:=if ordC (cat l i) (cat l j)=0 then cmpZ (i:Int) (j:Int) else ordC (cat l i) (cat l j)
def ltK (l:List Cv)(i j:Nat):Prop:=ltC (cat l i).cl (cat l j).cl∨((cat l i).cl.x=(cat l j).cl.x∧(cat l i).cl.y=(cat l j).cl.y∧i<j)
theorem ordK_neg {l:List Cv}{i j:Nat}:ordK l i j<0↔ltK l i j:=by
 unfold ordK ltK
 by_cases h:ordC (cat l i) (cat l j)=0
 ·rw[if_pos h];have h1:=ordC_zero.1 h
  have h2:¬ ltC (cat l i).cl (cat l j).cl:=fun e=>ltC_ne e h1
  have h3:cmpZ (i:Int) (j:Int)<0↔i<j:=by
   unfold cmpZ
   split
   ·constructor <;> intro <;> omega
   ·split <;> (constructor <;> intro <;> omega)
  rw[h3]
  constructor
  ·intro e;exact .inr ⟨h1.1,h1.2,e⟩
  ·rintro(e|e)
   ·exact absurd e h2
   ·exact e.2.2
 ·rw[if_neg h,ordC_neg]
  constructor
  ·intro e;exact .inl e
  ·rintro(e|e)
   ·exact e
   ·exact absurd (ordC_zero.2 ⟨e.1,e.2.1⟩) h
theorem ltK_irr (l:List Cv)(i:Nat):¬ ltK l i i:=by
 unfold ltK ltC
 omega
theorem ltK_trans {l:List Cv}{i j k:Nat}(h:ltK l i j)(h2:ltK l j k):ltK l i k:=by
 unfold ltK ltC at *
 omega
theorem ltK_tri (l:List Cv){i j:Nat}(h:i≠j):ltK l i j∨ltK l j i:=by
 unfold ltK ltC
 omega
theorem ltK_ntrans {l:List Cv}{i j k:Nat}(h:¬ ltK l i j)(h2:¬ ltK l j k):¬ ltK l i k:=by
 unfold ltK ltC at *
 omega
theorem stand1_gro (B:Nat)(A:Option Addr)(c n:Nat)(l:List Cv)(w:World)(hB:w.cell? ⟨B,0,none⟩=some (.slice A n c))(h:Cs w A c l)(hn:l.length=n)(hR:∀v∈l,CvR v)(i j:Nat)(hi:i<n)(hj:j<n) :
  Calls Tryz.prog 92 #[.int .i64 (i:Int),.int .i64 (j:Int),.pointer (some ⟨B,0,none⟩)] w fun e w'=>e=.returned (.int .i64 (ordK l i j))∧Gro w w':=by
 have hcap:=h.cap
 rw[hn] at hcap
 obtain⟨b,off,rfl,hb,hc⟩:=h.at_ (by omega)
 obtain⟨c1,c2,c3,c4,c5⟩:=hc i (by omega)
 obtain⟨d1,d2,d3,d4,d5⟩:=hc j (by omega)
 have hv:=h.1 _ (cat_mem (i:=i) (by omega))
 have hu:=h.1 _ (cat_mem (i:=j) (by omega))
 have rv:=hR _ (cat_mem (i:=i) (by omega))
 have ru:=hR _ (cat_mem (i:=j) (by omega))
 obtain⟨R,hRR⟩:∃R,R=ordK l i j:=⟨_,rfl⟩
 rw[←hRR]
 unfold ordK at hRR
 generalize cat l i=v at *
 generalize cat l j=u at *
 have hv1:=hv.1.cap
 have hv2:=hv.2.1.cap
 have hu1:=hu.1.cap
 have hu2:=hu.2.1.cap
 obtain⟨r,hr⟩:∃r,r=ordC v u:=⟨_,rfl⟩
 rw[←hr] at hRR
 have HRR:=Lib.hid hRR
 have HR:=Lib.hid hr
 have HV:=Lib.hid hv
 have HU:=Lib.hid hu
 have i1:(0:Int)≤(i:Int):=by omega
 have i2:(i:Int)<(n:Int):=by omega
 have j1:(0:Int)≤(j:Int):=by omega
 have j2:(j:Int)<(n:Int):=by omega
 have HLB:=Lib.hid (lt_of_cell hB)
 have HBB:=Lib.hid hB
 have HLb:=Lib.hid hb
 have HCV:=Lib.hid (show CvAt w b (off+i*5) v from⟨c1,c2,c3,c4,c5⟩)
 have HCU:=Lib.hid (show CvAt w b (off+j*5) u from⟨d1,d2,d3,d4,d5⟩)
 clear h hc hRR hr hv hu hR
 have st:Gro w w.drew:=(Gro.refl w).drewN 1
 by_cases hz:r=0
 ·subst hz;have HZ:=HR
  go_enter Tryz.func92,Tryz.ntmps92
  go_wp2_with fail
  go_region_held3 (fun w'=>w'.cell? ⟨B,0,none⟩=some (.slice (some ⟨b,off,none⟩) n c)∧(w'.cell? ⟨b,off+i*5,none⟩=some (.bool v.sx)∧w'.cell? ⟨b,off+i*5+1,none⟩=some (.slice v.ax v.xs.length v.cx)∧w'.cell? ⟨b,off+i*5+2,none⟩=some (.bool v.sy)∧w'.cell? ⟨b,off+i*5+3,none⟩=some (.slice v.ay v.ys.length v.cy)∧w'.cell? ⟨b,off+i*5+4,none⟩=some (.int .u8 v.st))∧(w'.cell? ⟨b,off+j*5,none⟩=some (.bool u.sx)∧w'.cell? ⟨b,off+j*5+1,none⟩=some (.slice u.ax u.xs.length u.cx)∧w'.cell? ⟨b,off+j*5+2,none⟩=some (.bool u.sy)∧w'.cell? ⟨b,off+j*5+3,none⟩=some (.slice u.ay u.ys.length u.cy)∧w'.cell? ⟨b,off+j*5+4,none⟩=some (.int .u8 u.st)))
   (first|go_keep|exact⟨k0,⟨e1,e2,e3,e4,e5⟩,⟨f1,f2,f3,f4,f5⟩⟩)
   (first|(go_at_call 93;refine(byPlace_gro v u _ (HV.out.below st.b) (HU.out.below st.b) rv ru).mono ?_;rintro e w1 ⟨rfl,g1⟩;rw[←HR.out];have k0:=((st.trans g1).b.cell (p:=⟨B,0,none⟩) HLB.out).trans HBB.out;obtain⟨e1,e2,e3,e4,e5⟩:=HCV.out.below ((st.trans g1).b.block b HLb.out);obtain⟨f1,f2,f3,f4,f5⟩:=HCU.out.below ((st.trans g1).b.block b HLb.out)))
  all_goals
   go_wp2_with (go_at_call 94;refine(cmpInt_any _ _ _).mono ?_;rintro e w2 ⟨rfl,rfl⟩)
   go_ret
   refine⟨?_,st.trans g1⟩
   rw[HRR.out]
   (first|rw[if_pos rfl]|rw[if_pos trivial])
   rfl
 ·have t1:(r != 0)=true:=by rw[bne_iff_ne];exact hz
  have HZ:=Lib.hid hz;clear hz
  go_enter Tryz.func92,Tryz.ntmps92
  go_wp2_with fail
  go_region_held3 (fun w'=>w'.cell? ⟨B,0,none⟩=some (.slice (some ⟨b,off,none⟩) n c)∧(w'.cell? ⟨b,off+i*5,none⟩=some (.bool v.sx)∧w'.cell? ⟨b,off+i*5+1,none⟩=some (.slice v.ax v.xs.length v.cx)∧w'.cell? ⟨b,off+i*5+2,none⟩=some (.bool v.sy)∧w'.cell? ⟨b,off+i*5+3,none⟩=some (.slice v.ay v.ys.length v.cy)∧w'.cell? ⟨b,off+i*5+4,none⟩=some (.int .u8 v.st))∧(w'.cell? ⟨b,off+j*5,none⟩=some (.bool u.sx)∧w'.cell? ⟨b,off+j*5+1,none⟩=some (.slice u.ax u.xs.length u.cx)∧w'.cell? ⟨b,off+j*5+2,none⟩=some (.bool u.sy)∧w'.cell? ⟨b,off+j*5+3,none⟩=some (.slice u.ay u.ys.length u.cy)∧w'.cell? ⟨b,off+j*5+4,none⟩=some (.int .u8 u.st)))
   (first|go_keep|exact⟨k0,⟨e1,e2,e3,e4,e5⟩,⟨f1,f2,f3,f4,f5⟩⟩)
   (first|(go_at_call 93;refine(byPlace_gro v u _ (HV.out.below st.b) (HU.out.below st.b) rv ru).mono ?_;rintro e w1 ⟨rfl,g1⟩;rw[←HR.out];have k0:=((st.trans g1).b.cell (p:=⟨B,0,none⟩) HLB.out).trans HBB.out;obtain⟨e1,e2,e3,e4,e5⟩:=HCV.out.below ((st.trans g1).b.block b HLb.out);obtain⟨f1,f2,f3,f4,f5⟩:=HCU.out.below ((st.trans g1).b.block b HLb.out)))
  all_goals
   go_wp2_with fail
   go_ret
   refine⟨?_,st.trans g1⟩
   rw[HRR.out,if_neg HZ.out]
   rfl
theorem cs_kept {w w':World}{blk:Nat}{A:Option Addr}{c:Nat}{l:List Cv}(h:Cs w A c l)(hk:∀k,k<w.heap.size→k≠blk→w'.heap[k]?=w.heap[k]?)(hs:w.heap.size≤w'.heap.size)(ha:∀a,A=some a→a.block≠blk)(ho:∀v∈l,Off blk v):Cs w' A c l :=
 ⟨fun v hv=>cvU_kept (h.1 v hv) hk hs (ho v hv),h.2.1,h.2.2.1,fun hn=>by
  obtain⟨b,off,e,hlt,hc⟩:=h.2.2.2 hn
  exact⟨b,off,e,Nat.lt_of_lt_of_le hlt hs,fun i hi=>(hc i hi).below (hk b hlt (ha _ e))⟩⟩
theorem sortW1_grown {α:Type}[Inhabited α](enc:α→Value)(w:World)(blk off m:Nat)(dk:Array α)(os:Array Obj):w.grownBy (sortWorld enc w blk off m dk os) (some blk):=by
 have hs:(putRow enc (Sort.ahead w m) blk off dk).heap.size=w.heap.size:=by
  unfold putRow mapBlock Sort.ahead;simp
 refine⟨rfl,rfl,rfl,?_,fun j hj hne=>?_⟩
 ·unfold sortWorld;rw[size_grow,hs];omega
 ·show((putRow enc (Sort.ahead w m) blk off dk).heap++os)[j]?=_
  rw[Array.getElem?_append,if_pos (by rw[hs];exact hj)]
  unfold putRow mapBlock Sort.ahead;simp only[Array.getElem?_modify]
  rw[if_neg (fun e=>hne (by rw[e]))]
def encP {n:Nat}(x:Fin n):Value:=.int .i64 (x.val:Int)
theorem sortI_any (B:Nat)(A:Option Addr)(c n:Nat)(l:List Cv)(w:World)(hB:w.cell? ⟨B,0,none⟩=some (.slice A n c))(h:Cs w A c l)(hn:l.length=n)(hR:∀v∈l,CvR v)
  (blk cap:Nat) (h0:0<n) (hn9:n≤1000000) (hb:blk<w.heap.size) (hBb:B≠blk) (hA:∀a,A=some a→a.block≠blk) (ho:∀v∈l,Off blk v)
  (hc:∀i,i<n→w.cell? ⟨blk,i,none⟩=some (.int .i64 (i:Int))) (hf:∀o,w.frozen? ⟨blk,o,none⟩=false) :
  Calls Tryz.prog 91 #[.slice (some ⟨blk,0,none⟩) n cap,.func (.func 92) #[] #[.pointer (some ⟨B,0,none⟩)]] w fun e w' =>
   e=.returned (.tuple #[])∧∃o:List Nat,o.Perm (List.range n)∧o.Pairwise (ltK l)∧(∀i,i<n→w'.cell? ⟨blk,i,none⟩=some (.int .i64 ((o[i]?.getD 0:Nat):Int)))∧w.grownBy w' (some blk):=by
 obtain⟨k,rfl⟩:∃k,n=k+1:=⟨n-1,by omega⟩
 obtain⟨d,hd⟩:∃d:Array (Fin (k+1)),d=(List.finRange (k+1)).toArray:=⟨_,rfl⟩
 have hds:d.size=k+1:=by rw[hd];simp
 have hdi:∀i (hi:i<k+1),d[i]! = ⟨i,hi⟩:=fun i hi=>by
  subst hd;rw[getElem!_pos _ i (by simpa using hi)];simp
 have hH:Holds (encP (n:=k+1)) w blk 0 d:=by
  intro j hj
  rw[hds] at hj;rw[hdi j hj,Nat.zero_add];exact⟨hc j hj,hf j⟩
 have eg:∀args w,(callFunc 92 args).run Tryz.prog w=.ok (.enter 92 args) w:=enters_of Tryz.func92 (by kernel_rfl) rfl
 have hcmp:CmpLays1 Tryz.prog 92 #[.pointer (some ⟨B,0,none⟩)] (encP (n:=k+1)) (fun x y=>ordK l x.val y.val) blk 0 d.size w:=by
  intro m os dk hdk x y
  have hg:=sortW1_grown (encP (n:=k+1)) w blk 0 m dk os
  have hk:∀j,j<w.heap.size→j≠blk→(sortWorld (encP (n:=k+1)) w blk 0 m dk os).heap[j]?=w.heap[j]?:=fun j h1 h2=>hg.block j h1 (fun e=>h2 (by cases e;rfl))
  have:=stand1_gro B A c (k+1) l (sortWorld (encP (n:=k+1)) w blk 0 m dk os) ((World.cell?_of_block (a:=⟨B,0,none⟩) (hk B (lt_of_cell hB) hBb)).trans hB) (cs_kept h hk hg.size hA ho) hn hR x.val y.val x.isLt y.isLt
  exact this.mono fun e w' ⟨he,hG⟩=>⟨he,gro_grow hG⟩
 have hS:SWO (ltOf fun x y:Fin (k+1)=>ordK l x.val y.val):=by
  refine⟨fun x=>?_,fun x y z h1 h2=>?_,fun x y z h1 h2=>?_⟩
  ·exact decide_eq_false (fun e=>ltK_irr l x.val (ordK_neg.1 e))
  ·exact decide_eq_true (ordK_neg.2 (ltK_trans (ordK_neg.1 (of_decide_eq_true h1)) (ordK_neg.1 (of_decide_eq_true h2))))
  ·exact decide_eq_false (fun e=>ltK_ntrans (fun e=>of_decide_eq_false h1 (ordK_neg.2 e)) (fun e=>of_decide_eq_false h2 (ordK_neg.2 e)) (ordK_neg.1 e))
 have hcon:=Any.slices_SortFunc Tryz.sortI (encP (n:=k+1)) (fun _=>rfl) (fun x y:Fin (k+1)=>ordK l x.val y.val) hS 92 #[.pointer (some ⟨B,0,none⟩)] blk 0 cap d w eg hcmp hH hb (by omega)
 rw[hds] at hcon
 change Calls Tryz.prog 91 _ _ _ at hcon
 refine hcon.mono ?_
 rintro e w' ⟨rfl,d',m,os,hp,hs,rfl⟩
 obtain⟨hsz,-,hperm⟩:=hp
 have hd':d'.size=k+1:=by rw[hsz,hds]
 have ex:∀(a:Array (Fin (k+1))) (m:Nat),m=a.size→a.extract 0 m=a:=fun a m e=>by subst e;exact Array.extract_size
 rw[ex d' _ hd'.symm,ex d _ hds.symm] at hperm
 have hpm:(d'.toList.map Fin.val).Perm (List.range (k+1)):=by
  have:=hperm.map Fin.val
  rw[hd,List.toList_toArray] at this
  rwa [show(List.finRange (k+1)).map Fin.val=List.range (k+1) from List.ext_getElem (by simp) (by simp)] at this
 refine⟨rfl,d'.toList.map Fin.val,hpm,?_,?_,sortW1_grown (encP (n:=k+1)) w blk 0 m d' os⟩
 ·refine List.pairwise_map.2 (List.pairwise_iff_getElem.2 fun i j hi hj hij=>?_)
  have hi':i<d'.size:=by rwa [Array.length_toList] at hi
  have hj':j<d'.size:=by rwa [Array.length_toList] at hj
  have hs1:=hs i j (Nat.zero_le _) hij (by omega)
  rw[getElem!_pos d' i hi',getElem!_pos d' j hj'] at hs1;have hne:(d'[i]).val≠(d'[j]).val:=fun e=>by
   have hnd:(d'.toList.map Fin.val).Nodup:=hpm.nodup_iff.2 List.nodup_range
   have h1:=(List.nodup_iff_pairwise_ne.1 hnd)
   have h2:=List.pairwise_iff_getElem.1 h1 i j (by simpa using hi') (by simpa using hj') hij
   exact h2 (by simpa using e)
  rw[Array.getElem_toList,Array.getElem_toList];rcases ltK_tri l hne with h1|h1
  ·exact h1
  ·exact absurd (ordK_neg.2 h1) (of_decide_eq_false hs1)
 ·intro i hi
  have hh:=holds_sortWorld (encP (n:=k+1)) w blk 0 m d d' os hb hH (by rw[hsz]) i (by omega)
  rw[Nat.zero_add] at hh;rw[hh.1];show some (Value.int .i64 ((d'[i]!).val:Int))=_
  rw[getElem!_pos d' i (by omega),List.getElem?_map,List.getElem?_eq_getElem (by rw[Array.length_toList];omega),Array.getElem_toList]
  rfl
end Go.Proofs.YtikehjindobpkaaGreat

namespace Go.Proofs.YtikehjindobpkaaGreat
open Nds
def atP (c:Cl)(x y:Int):Prop:=c.x=x∧c.y=y
instance (c:Cl) (x y:Int):Decidable (atP c x y):=by unfold atP;infer_instance
def lastI (f:Nat→Cl):Nat→Int→Int→Int
 | 0,_,_=>0
 | n+1,x,y=>if atP (f n) x y then (f n).s else lastI f n x y
theorem lastI_cases (f:Nat→Cl)(x y:Int):∀n,((∀k,k<n→¬ atP (f k) x y)∧lastI f n x y=0)∨∃k,k<n∧atP (f k) x y∧(∀j,k<j→j<n→¬ atP (f j) x y)∧lastI f n x y=(f k).s
 | 0=>.inl ⟨fun k hk=>absurd hk (Nat.not_lt_zero k),rfl⟩
 | n+1=>by
  by_cases h:atP (f n) x y
  ·exact .inr ⟨n,Nat.lt_succ_self n,h,fun j h1 h2=>by omega,if_pos h⟩
  ·rcases lastI_cases f x y n with⟨h1,h2⟩|⟨k,h1,h2,h3,h4⟩
   ·refine .inl ⟨fun k hk=>?_,(if_neg h).trans h2⟩
    rcases Nat.lt_or_ge k n with hn|hn
    ·exact h1 k hn
    ·rw[show k=n by omega];exact h
   ·refine .inr ⟨k,by omega,h2,fun j hj hn=>?_,(if_neg h).trans h4⟩
    rcases Nat.lt_or_ge j n with hjn|hjn
    ·exact h3 j hj hjn
    ·rw[show j=n by omega];exact h
theorem lastS_lastI (l:List Cv)(x y:Int):∀k,k≤l.length→lastS ((l.take k).map Cv.cl) x y=lastI (fun i=>(cat l i).cl) k x y
 | 0,_=>by simp[lastS,lastI]
 | k+1,hk=>by
  rw[←List.take_append_getElem (l:=l) (i:=k) (by omega),List.map_append,List.map_cons,List.map_nil,lastS_snoc,lastS_lastI l x y k (by omega),←cat_get (by omega)]
  rfl
def keepAt (l:List Cv)(o:List Nat)(i:Nat):Bool := !(decide (i+1<o.length)&&(ordC (cat l (o[i]?.getD 0)) (cat l (o[i+1]?.getD 0))==0))&&(cat l (o[i]?.getD 0)).st != 0
def standL (l:List Cv)(o:List Nat)(k:Nat):List Cv:=((List.range k).filter (keepAt l o)).map fun i=>cat l (o[i]?.getD 0)
theorem standL_succ (l:List Cv)(o:List Nat)(k:Nat):standL l o (k+1)=if keepAt l o k=true then standL l o k++[cat l (o[k]?.getD 0)] else standL l o k:=by
 unfold standL
 rw[List.range_succ,List.filter_append]
 by_cases h:keepAt l o k=true
 ·rw[if_pos h,List.filter_cons,if_pos h,List.filter_nil,List.map_append]
  rfl
 ·rw[if_neg h,List.filter_cons,if_neg h,List.filter_nil,List.append_nil]
theorem standL_mem {l:List Cv}{o:List Nat}{n k:Nat}(hl:l.length=n)(ho:o.Perm (List.range n))(hk:k≤n){v:Cv}(h:v∈standL l o k):v∈l:=by
 unfold standL at h
 obtain⟨i,hi,rfl⟩:=List.mem_map.1 h
 have hi2:=List.mem_range.1 (List.mem_filter.1 hi).1
 have hlen:o.length=n:=by rw[ho.length_eq,List.length_range]
 have hoi:o[i]?.getD 0∈o:=by rw[List.getElem?_eq_getElem (by omega)];exact List.getElem_mem _
 have:=List.mem_range.1 (ho.mem_iff.1 hoi)
 exact cat_mem (by omega)
theorem standL_st {l:List Cv}{o:List Nat}{k:Nat}{v:Cv}(h:v∈standL l o k):v.st≠0:=by
 unfold standL at h
 obtain⟨i,hi,rfl⟩:=List.mem_map.1 h
 have:=(List.mem_filter.1 hi).2
 unfold keepAt at this
 simp only[Bool.and_eq_true,bne_iff_ne] at this
 exact this.2
theorem standL_len (l:List Cv)(o:List Nat)(k:Nat):(standL l o k).length≤k:=by
 unfold standL
 rw[List.length_map]
 exact Nat.le_trans (List.length_filter_le _ _) (by rw[List.length_range];exact Nat.le_refl _)
theorem stand_spec {l:List Cv}{o:List Nat}{n:Nat}(hl:l.length=n)(ho:o.Perm (List.range n))(hs:o.Pairwise (ltK l)):(standL l o n).map Cv.cl=lastF (l.map Cv.cl):=by
 have hlen:o.length=n:=by rw[ho.length_eq,List.length_range]
 have hg:∀i,i<n→o[i]?.getD 0<n:=fun i hi=>by
  have hoi:o[i]?.getD 0∈o:=by rw[List.getElem?_eq_getElem (by omega)];exact List.getElem_mem _
  exact List.mem_range.1 (ho.mem_iff.1 hoi)
 have hlt:∀i j,i<j→j<n→ltK l (o[i]?.getD 0) (o[j]?.getD 0):=fun i j hij hj=>by
  rw[List.getElem?_eq_getElem (show i<o.length by omega),List.getElem?_eq_getElem (show j<o.length by omega)];exact List.pairwise_iff_getElem.1 hs i j _ _ hij
 have hex:∀k,k<n→∃i,i<n∧o[i]?.getD 0=k:=fun k hk=>by
  obtain⟨i,hi,he⟩:=List.getElem_of_mem (ho.mem_iff.2 (List.mem_range.2 hk))
  exact⟨i,by omega,by rw[List.getElem?_eq_getElem hi];exact he⟩
 -- what has a later one of its place isn't kept
 have hover:∀i j,i<j→j<n→(cat l (o[i]?.getD 0)).cl.x=(cat l (o[j]?.getD 0)).cl.x→(cat l (o[i]?.getD 0)).cl.y=(cat l (o[j]?.getD 0)).cl.y→keepAt l o i=false:=fun i j hij hj hx hy=>by
  have h1:=hlt i (i+1) (by omega) (by omega)
  have h2:ordC (cat l (o[i]?.getD 0)) (cat l (o[i+1]?.getD 0))=0:=by
   rw[ordC_zero];rcases Nat.lt_or_ge (i+1) j with h3|h3
   ·have h4:=hlt (i+1) j h3 hj
    unfold ltK ltC at h1 h4;omega
   ·rw[show i+1=j by omega];exact⟨hx,hy⟩
  unfold keepAt;rw[decide_eq_true (show i+1<o.length by omega),h2]
  rfl
 have hsrt:Srt ((standL l o n).map Cv.cl):=by
  unfold standL Srt;rw[List.map_map,List.pairwise_map];have h0:(List.range n).Pairwise (fun a b=>a<b∧b<n):=List.pairwise_iff_getElem.2 fun i j hi hj hij=>by
   rw[List.getElem_range,List.getElem_range];rw[List.length_range] at hj;exact⟨hij,hj⟩
  refine(h0.filter (keepAt l o)).imp_of_mem ?_
  ·rintro a b ha hb ⟨hab,hbn⟩
   have hka:=(List.mem_filter.1 ha).2
   have h1:=hlt a b hab hbn
   rcases h1 with h1|⟨h1,h2,-⟩
   ·exact h1
   ·rw[hover a b hab hbn h1 h2] at hka;cases hka
 have hst:∀c∈(standL l o n).map Cv.cl,c.s≠0:=fun c hc=>by
  obtain⟨v,hv,rfl⟩:=List.mem_map.1 hc
  have:=standL_st hv
  show((v.st:Nat):Int)≠0
  omega
 obtain⟨f1,f2,f3⟩:=lastF_spec (l.map Cv.cl)
 refine srt_uniq hsrt f1 hst (fun c hc=>(f3 c hc).1) fun x y=>?_
 rw[f2]
 have hLI:lastS (l.map Cv.cl) x y=lastI (fun i=>(cat l i).cl) n x y:=by
  have:=lastS_lastI l x y n (by omega)
  rwa [List.take_of_length_le (by omega)] at this
 rw[hLI]
 by_cases hin:∃i,i<n∧keepAt l o i=true∧atP (cat l (o[i]?.getD 0)).cl x y
 ·obtain⟨i,hi,hk,hp⟩:=hin
  have hm:(cat l (o[i]?.getD 0)).cl∈(standL l o n).map Cv.cl:=List.mem_map.2 ⟨_,List.mem_map.2 ⟨i,List.mem_filter.2 ⟨List.mem_range.2 hi,hk⟩,rfl⟩,rfl⟩
  have e1:=lk_mem hsrt hm
  rw[hp.1,hp.2] at e1;rw[e1];rcases lastI_cases (fun i=>(cat l i).cl) x y n with⟨h1,_⟩|⟨k,h1,h2,h3,h4⟩
  ·exact absurd hp (h1 _ (hg i hi))
  ·rw[h4];obtain⟨j,hj,hjk⟩:=hex k h1
   have hij:i=j:=by
    rcases Nat.lt_trichotomy i j with h5|h5|h5
    ·have:=hover i j h5 hj (by rw[hjk];rw[hp.1];exact h2.1.symm) (by rw[hjk];rw[hp.2];exact h2.2.symm)
     rw[this] at hk;cases hk
    ·exact h5
    ·have h6:=hlt j i h5 hi
     rw[hjk] at h6;have h7:k<o[i]?.getD 0:=by
      have q1:=hp.1
      have q2:=hp.2
      have q3:(cat l k).cl.x=x:=h2.1
      have q4:(cat l k).cl.y=y:=h2.2
      unfold ltK ltC at h6;omega
     exact absurd hp (h3 _ h7 (hg i hi))
   rw[hij,hjk]
 ·have e1:lk ((standL l o n).map Cv.cl) x y=0:=lk_none fun c hc hcp=>by
   obtain⟨v,hv,rfl⟩:=List.mem_map.1 hc
   unfold standL at hv;obtain⟨i,hi,rfl⟩:=List.mem_map.1 hv
   obtain⟨hi1,hi2⟩:=List.mem_filter.1 hi
   exact hin ⟨i,List.mem_range.1 hi1,hi2,hcp⟩
  rw[e1];rcases lastI_cases (fun i=>(cat l i).cl) x y n with⟨_,h1⟩|⟨k,h1,h2,h3,h4⟩
  ·exact h1.symm
  ·rw[h4];obtain⟨i,hi,hik⟩:=hex k h1
   by_cases hk:keepAt l o i=true
   ·exact absurd ⟨i,hi,hk,by rw[hik];exact h2⟩ hin
   ·have hno:(decide (i+1<o.length)&&(ordC (cat l (o[i]?.getD 0)) (cat l (o[i+1]?.getD 0))==0))=false:=by
     cases hq:(decide (i+1<o.length)&&(ordC (cat l (o[i]?.getD 0)) (cat l (o[i+1]?.getD 0))==0))
     ·rfl
     ·simp only[Bool.and_eq_true,decide_eq_true_eq,beq_iff_eq] at hq
      obtain⟨q1,q2⟩:=hq
      have q3:=ordC_zero.1 q2
      have q4:=hlt i (i+1) (by omega) (by omega)
      rw[hik] at q3 q4;have q5:k<o[i+1]?.getD 0:=by unfold ltK ltC at q4;omega
      refine absurd ?_ (h3 _ q5 (hg _ (by omega)))
      exact⟨q3.1.symm.trans h2.1,q3.2.symm.trans h2.2⟩
    unfold keepAt at hk;rw[hno,hik] at hk;simp only[Bool.not_false,Bool.true_and,bne_iff_ne,ne_eq,Decidable.not_not] at hk
    show(0:Int)=((cat l k).st:Int)
    omega
end Go.Proofs.YtikehjindobpkaaGreat

namespace Go.Proofs.YtikehjindobpkaaGreat
open Go.RowKit Nds
theorem Tryz.infoC:(Tryz.prog.info? 83).map (fun i=>(i.zero,i.size,i.bytes))=some (some (cvv cv0),5,72):=by kernel_rfl
def cvcs (l:List Cv):List Value:=l.flatMap encC
theorem cvcs_len (l:List Cv):(cvcs l).length=l.length*5:=by
 unfold cvcs
 induction l with
 | nil=>rfl
 | cons x l ih =>
  rw[List.flatMap_cons,List.length_append,ih,List.length_cons];show 5+_=_
  omega
theorem cvcs_app (l m:List Cv):cvcs (l++m)=cvcs l++cvcs m:=by
 unfold cvcs
 rw[List.flatMap_append]
theorem cvcs_at:∀(l:List Cv) (i j:Nat),i<l.length→j<5→(cvcs l)[i*5+j]?=(encC (cat l i))[j]?
 | [],i,_,hi,_=>by simp at hi
 | x :: l,0,j,_,hj=>by
  show(encC x++cvcs l)[0*5+j]?=_
  rw[List.getElem?_append_left (by show _<5;omega),show 0*5+j=j by omega]
  rfl
 | x :: l,i+1,j,hi,hj=>by
  show(encC x++cvcs l)[(i+1)*5+j]?=_
  rw[List.getElem?_append_right (by show 5≤_;omega),show(i+1)*5+j-(encC x).length=i*5+j by show _-5=_;omega,cvcs_at l i j (by simpa using hi) hj]
  rfl
theorem cvcs_one (l:List Cv):∀u∈cvcs l,u.oneCell'=true:=fun u hu=>by
 obtain⟨x,_,hx⟩:=List.mem_flatMap.1 hu
 exact encC_one x u hx
def OwnC (w:World)(base:Nat)(v:Value)(l:List Cv):Prop:=w.ownsRow base 83 5 v l.length (cvcs l)
theorem OwnC.shape {w:World}{base:Nat}{v:Value}{l:List Cv}(h:OwnC w base v l) :
  ∃A c,v=.slice A l.length c∧l.length≤c∧c≤maxLen∧(A=none→c=0∧l=[])∧(∀a,A=some a→∃g,a=⟨g,0,none⟩∧base≤g∧g<w.heap.size∧(∀i,i<l.length→CvAt w g (i*5) (cat l i))∧∀o,w.frozen? ⟨g,o,none⟩=false):=by
 rcases h.2 with⟨h',hn⟩|⟨g,cap,cur,h',hb,hg,hnc,hcm,hcs,htake⟩
 ·refine⟨none,0,by rw[h',hn],by omega,by simp[maxLen],fun _=>⟨rfl,List.eq_nil_of_length_eq_zero hn⟩,(fun a e=>by cases e)⟩
 ·refine⟨some ⟨g,0,none⟩,cap,h',hnc,hcm,(fun e=>by cases e),fun a e=>?_⟩
  cases e
  have hlt:g<w.heap.size:=by
   rcases Nat.lt_or_ge g w.heap.size with hlt|hge
   ·exact hlt
   ·rw[Array.getElem?_eq_none hge] at hg;cases hg
  refine⟨g,rfl,hb,hlt,fun i hi=>?_,fun o=>frozen_of_row _ _ _ _ _ hg⟩
  have hcell:∀j,j<5→w.cell? ⟨g,i*5+j,none⟩=(encC (cat l i))[j]?:=by
   intro j hj
   have hlt:i*5+j<l.length*5:=by omega
   rw[cell_of_row w g (i*5+j) cur _ (0,0) hg,←cvcs_at l i j hi hj,←htake,List.getElem?_take,if_pos hlt];simp
  exact⟨hcell 0 (by omega),hcell 1 (by omega),hcell 2 (by omega),hcell 3 (by omega),hcell 4 (by omega)⟩
theorem OwnC.nil (w:World)(base:Nat):OwnC w base (.slice none 0 0) []:=World.ownsRow_nil w base _ 5
theorem OwnC.kept {w w':World}{base:Nat}{v:Value}{l:List Cv}{row:Option Nat}(h:OwnC w base v l)(hg:w.grownBy w' row)(hv:v.ownBlock=none∨v.ownBlock≠row):OwnC w' base v l:=World.ownsRow.kept h hg hv
theorem OwnC.alloc {w:World}{base:Nat}{v:Value}{l:List Cv}(h:OwnC w base v l)(o:Obj):OwnC (w.alloc o) base v l:=h.kept (World.grownBy_alloc w o none) (by cases v.ownBlock <;> simp)
theorem OwnC.lt {w:World}{base:Nat}{v:Value}{l:List Cv}(h:OwnC w base v l):∀k,v.ownBlock=some k→base≤k∧k<w.heap.size:=World.ownsRow.lt h
theorem OwnC.cs {w:World}{base:Nat}{v:Value}{l:List Cv}(h:OwnC w base v l)(hu:∀x∈l,CvU w x):∃A c,v=.slice A l.length c∧Cs w A c l∧(A=none→c=0)∧∀a,A=some a→base≤a.block:=by
 obtain⟨A,c,h1,h2,h3,h4,h5⟩:=h.shape
 refine⟨A,c,h1,⟨hu,h2,h3,fun hn=>?_⟩,fun e=>(h4 e).1,fun a e=>?_⟩
 ·cases A with
  | none=>have:=(h4 rfl).2;subst this;exact absurd hn (Nat.lt_irrefl 0)
  | some a =>
   obtain⟨g,rfl,hg,hlt,hc,_⟩:=h5 a rfl
   exact⟨g,0,rfl,hlt,fun i hi=>by rw[Nat.zero_add];exact hc i hi⟩
 ·obtain⟨g,rfl,hg,_⟩:=h5 a e
  exact hg
theorem cell_box (w:World)(x:Cv):∀j u,(cvcs [x])[j]?=some u→(w.alloc (.cells #[.bool x.sx,.slice x.ax x.xs.length x.cx,.bool x.sy,.slice x.ay x.ys.length x.cy,.int .u8 x.st] 83)).cell? ((⟨w.heap.size,0,none⟩:Addr).add j)=some u:=by
 intro j u hu
 have hj:=(List.getElem?_eq_some_iff.1 hu).1
 rw[cvcs_len] at hj
 obtain⟨h0,h1,h2,h3,h4⟩:=CvAt.new w x 83
 rw[Nat.zero_add] at h1 h2 h3 h4
 have hj5:j<5:=by simpa using hj
 have hadd:(⟨w.heap.size,0,none⟩:Addr).add j=⟨w.heap.size,j,none⟩:=by
  unfold Addr.add
  split
  ·rename_i h;subst h;rfl
  ·simp
 rw[hadd]
 match j,hj5 with
 | 0,_=>rw[h0];exact hu
 | 1,_=>rw[h1];exact hu
 | 2,_=>rw[h2];exact hu
 | 3,_=>rw[h3];exact hu
 | 4,_=>rw[h4];exact hu
theorem run_append_cells (w:World)(base:Nat)(v:Value)(xs ys:List Cv)(ty:TypeId)(ad:Addr)(m c:Nat)(how:OwnC w base v xs)(hN:∀j u,(cvcs ys)[j]?=some u→w.cell? (ad.add j)=some u)(hm:ys.length=m)(hs:xs.length+m≤1000000)(hb:base≤w.heap.size) :
  ∃v' w',(Builtin.append_ #[22,22] ty #[v,.slice (some ad) m c]).run Tryz.prog w=.ok v' w'∧OwnC w' base v' (xs++ys)∧w.grownBy w' v.ownBlock∧(v'.ownBlock=v.ownBlock∨v'.ownBlock=some w.heap.size):=by
 obtain⟨i0,hi,hz0,hz1,hz2⟩:=info_parts Tryz.infoC
 obtain⟨v',w',hrun,h2,h3,_,h5⟩:=run_append_own_at (P:=Tryz.prog) w base 22 ty 83 i0 (cvv cv0) 5 72 Tryz.underlying22 hi hz0 hz1 hz2 rfl (by omega) v xs.length (cvcs xs) how ad m c (cvcs ys) (by rw[cvcs_len,hm]) hN (cvcs_one ys) (by simp only[maxLen];omega) (by omega) hb
 refine⟨v',w',hrun,?_,h3,h5⟩
 unfold OwnC
 rw[cvcs_app,List.length_append,hm]
 exact h2
theorem wpList_append_cell (w:World){ops:Array Oper}{rest:List Oper}{o:Oper}{a:Act}{Q:Exit→Act→World→Prop}(hg:o.guard=none)(s x:Operand)
  (hop:o.op=Op.call { callee:=Callee.builtin Builtin.append,args:=#[s,x],argTypes:=#[22,22] }) (base:Nat) (v:Value) (xs:List Cv) (y:Cv) (ad:Addr) (c:Nat)
  (hs:a.eval s=v) (hx:a.eval x=.slice (some ad) 1 c) (how:OwnC w base v xs) (hN:∀j u,(cvcs [y])[j]?=some u→w.cell? (ad.add j)=some u) (hsz:xs.length+1≤1000000) (hb:base≤w.heap.size)
  (hK:∀v' w',OwnC w' base v' (xs++[y])→w.grownBy w' v.ownBlock→(v'.ownBlock=v.ownBlock∨v'.ownBlock=some w.heap.size)→wpList Tryz.prog ops Q rest (a.put o.dst v') w') :
  wpList Tryz.prog ops Q (o :: rest) a w:=by
 refine wpList_plain hg fun K hK'=>?_
 obtain⟨v',w',hrun,h1,h2,h3⟩:=run_append_cells w base v xs [y] o.type ad 1 c how hN rfl hsz hb
 unfold Oper.wp execOp
 simp only[hop,resolve,invoke,builtin,Sem.run_bind,Sem.run_pure,Result.andThen_ok,List.map_toArray,List.map_cons,List.map_nil,hs,hx,hrun]
 exact hK' _ _ (hK v' w' h1 h2 h3)
theorem oper_append_cell {w:World}{o:Oper}{a:Act}{K:Act→World→Prop}{Q:Exit→Act→World→Prop}(s x:Operand)
  (hop:o.op=Op.call { callee:=Callee.builtin Builtin.append,args:=#[s,x],argTypes:=#[22,22] }) (base:Nat) (v:Value) (xs:List Cv) (y:Cv) (ad:Addr) (c:Nat)
  (hs:a.eval s=v) (hx:a.eval x=.slice (some ad) 1 c) (how:OwnC w base v xs) (hN:∀j u,(cvcs [y])[j]?=some u→w.cell? (ad.add j)=some u) (hsz:xs.length+1≤1000000) (hb:base≤w.heap.size)
  (h:∀v' w',OwnC w' base v' (xs++[y])→w.grownBy w' v.ownBlock→(v'.ownBlock=v.ownBlock∨v'.ownBlock=some w.heap.size)→K (a.put o.dst v') w'):Oper.wp Tryz.prog o a w K Q:=by
 obtain⟨v',w',hrun,h1,h2,h3⟩:=run_append_cells w base v xs [y] o.type ad 1 c how hN rfl hsz hb
 unfold Oper.wp execOp
 simp only[hop,resolve,invoke,builtin,Sem.run_bind,Sem.run_pure,Result.andThen_ok,List.map_toArray,List.map_cons,List.map_nil,hs,hx,hrun]
 exact h v' w' h1 h2 h3
end Go.Proofs.YtikehjindobpkaaGreat

namespace Go.Proofs.YtikehjindobpkaaGreat
open Go.RowKit Nds Num
structure PB (w:World)(B:Nat)(x y:Bool × Option Addr × Nat × List Nat)(W:World):Prop where
 b:Below w.heap.size w W
 lw:w.heap.size≤B
 lt:B+1<W.heap.size
 x0:W.cell? ⟨B,0,none⟩=some (.bool x.1)
 x1:W.cell? ⟨B,1,none⟩=some (.slice x.2.1 x.2.2.2.length x.2.2.1)
 y0:W.cell? ⟨B+1,0,none⟩=some (.bool y.1)
 y1:W.cell? ⟨B+1,1,none⟩=some (.slice y.2.1 y.2.2.2.length y.2.2.1)
 ux:Us W x.2.1 x.2.2.1 x.2.2.2
 uy:Us W y.2.1 y.2.2.1 y.2.2.2
theorem PB.next {w:World}{B:Nat}{x y:Bool × Option Addr × Nat × List Nat}{W W1:World}(h:PB w B x y W)(k:Below W.heap.size W W1):PB w B x y W1 :=
 ⟨h.b.trans (k.mono h.b.size),h.lw,Nat.lt_of_lt_of_le h.lt k.size,(k.cell (p:=⟨B,0,none⟩) (by have:=h.lt;show B<_;omega)).trans h.x0,(k.cell (p:=⟨B,1,none⟩) (by have:=h.lt;show B<_;omega)).trans h.x1,
  (k.cell (p:=⟨B+1,0,none⟩) h.lt).trans h.y0,(k.cell (p:=⟨B+1,1,none⟩) h.lt).trans h.y1,h.ux.below k,h.uy.below k⟩
theorem PB.new (w:World)(s t:Bool)(A B:Option Addr)(c d:Nat)(xs ys:List Nat)(h:Us w A c xs)(k:Us w B d ys) :
  PB w w.heap.size (s,A,c,xs) (t,B,d,ys) ((w.alloc (.cells #[.bool s,.slice A xs.length c] 31)).alloc (.cells #[.bool t,.slice B ys.length d] 31)):=by
 obtain⟨e1,e2,e3⟩:=box2 w (.bool s) (.slice A xs.length c) (.bool t) (.slice B ys.length d) 31
 exact⟨e3,Nat.le_refl _,by simp,e1.1,e1.2.1,e2.1,e2.2.1,h.below e3,k.below e3⟩
theorem ordI_lt {a b:Int}:decide (ordI a b<0)=decide (a<b):=by
 unfold ordI
 split
 ·rename_i h;rw[decide_eq_true h];rfl
 ·rename_i h
  rw[decide_eq_false h]
  split <;> rfl
theorem ordI_ge {a b:Int}:decide (ordI a b≥0)=decide (b≤a):=by
 unfold ordI
 split
 ·rename_i h;rw[decide_eq_false (by omega),decide_eq_false (by omega)]
 ·rename_i h
  rw[decide_eq_true (show b≤a by omega)]
  split <;> rfl
def inH (x h:Int):Bool:=decide (x<h)&&decide (-h≤x)
theorem cwithin_any (s t_:Bool)(A B:Option Addr)(c d:Nat)(xs ys:List Nat)(w:World)(h:Us w A c xs)(k:Us w B d ys)(hl:xs.length≤60000)(kl:ys.length≤50000)(hc:CanonI s xs)(kc:CanonI t_ ys) :
  Calls Tryz.prog 95 #[.agg #[.bool s,.slice A xs.length c],.agg #[.bool t_,.slice B ys.length d]] w fun e w'=>e=.returned (.bool (inH (ival s xs) (ival t_ ys)))∧Below w.heap.size w w':=by
 have hcap:=h.cap
 have kcap:=k.cap
 obtain⟨W,hW⟩:∃W:World,W=(w.alloc (.cells #[.bool s,.slice A xs.length c] 31)).alloc (.cells #[.bool t_,.slice B ys.length d] 31):=⟨_,rfl⟩
 have hP:PB w w.heap.size (s,A,c,xs) (t_,B,d,ys) W:=by rw[hW];exact PB.new w s t_ A B c d xs ys h k
 obtain⟨X,hX⟩:∃X,X=ival s xs:=⟨_,rfl⟩
 obtain⟨H,hH⟩:∃H,H=ival t_ ys:=⟨_,rfl⟩
 rw[←hX,←hH]
 have HW:=Lib.hid hW
 have st:=hP.next (below_drewN (Below.refl _ W) 1)
 have HXX:=Lib.hid hX
 have HHH:=Lib.hid hH
 obtain⟨k1,k2,k3,k4⟩:W.cell? ⟨w.heap.size,0,none⟩=some (.bool s)∧W.cell? ⟨w.heap.size,1,none⟩=some (.slice A xs.length c)∧W.cell? ⟨w.heap.size+1,0,none⟩=some (.bool t_)∧W.cell? ⟨w.heap.size+1,1,none⟩=some (.slice B ys.length d):=⟨hP.x0,hP.x1,hP.y0,hP.y1⟩
 have HC:=Lib.hid hc
 have KC:=Lib.hid kc
 have HL:=Lib.hid hl
 have KL:=Lib.hid kl
 rw[hW] at k1 k2 k3 k4
 rw[hW] at st
 clear h k hP hW hX hH hc kc
 have q0:True:=trivial
 by_cases hxh:X<H
 ·have HXH:=Lib.hid hxh;obtain⟨r,hr⟩:∃r,r=ordI X H:=⟨_,rfl⟩
  have t1:decide (r<0)=true:=by rw[hr,ordI_lt];exact decide_eq_true hxh
  have HRr:=Lib.hid hr;clear hr hxh;obtain⟨r2,hr2⟩:∃r2,r2=ordI X (-H):=⟨_,rfl⟩
  have HR2:=Lib.hid hr2;clear hr2
  go_enter Tryz.func95,Tryz.ntmps95
  go_wp2_with fail
  go_region_held3 (fun w'=>w'.cell? ⟨w.heap.size,0,none⟩=some (.bool s)∧w'.cell? ⟨w.heap.size,1,none⟩=some (.slice A xs.length c)∧w'.cell? ⟨w.heap.size+1,0,none⟩=some (.bool t_)∧w'.cell? ⟨w.heap.size+1,1,none⟩=some (.slice B ys.length d))
   (first|go_keep|exact⟨e1,e2,e3,e4⟩)
   (first
    | (go_at_call 119;refine(minus_any t_ B d ys _ (PB.uy (w:=w) (B:=w.heap.size) (x:=(s,A,c,xs)) (y:=(t_,B,d,ys)) st1) (by have:=KL.out;omega)).mono ?_;rintro e w2 ⟨A2,c2,s2,r2_,rfl,u2,q2,v2,b2⟩;have st2:=st1.next b2;have q2w:=q1;clear q1;have e1:=st2.x0;have e2:=st2.x1;have e3:=st2.y0;have e4:=st2.y1;dsimp only at e1 e2 e3 e4)
    | (have _t:=q0;go_at_call 55;clear _t;refine(bcmp_any s t_ A B c d xs ys _ (PB.ux (w:=w) (B:=w.heap.size) (x:=(s,A,c,xs)) (y:=(t_,B,d,ys)) st) (PB.uy (w:=w) (B:=w.heap.size) (x:=(s,A,c,xs)) (y:=(t_,B,d,ys)) st) HL.out (by have:=KL.out;omega) HC.out KC.out).mono ?_;rintro e w1 ⟨rfl,b1⟩;rw[←HXX.out,←HHH.out,←HRr.out];have q1:=q0;clear q0;have st1:=st.next b1;have e1:=st1.x0;have e2:=st1.x1;have e3:=st1.y0;have e4:=st1.y1;dsimp only at e1 e2 e3 e4)
    | (have _t:=q2w;go_at_call 55;clear _t;refine(bcmp_any s s2 A A2 c c2 xs r2_ _ (PB.ux (w:=w) (B:=w.heap.size) (x:=(s,A,c,xs)) (y:=(t_,B,d,ys)) st2) u2 HL.out (by have h1:=abs_of_len (s:=t_) st2.uy.1 KL.out;exact Nat.le_trans (len_ival q2 v2 50000 (by rw[Int.natAbs_neg];exact h1)) (by omega)) HC.out q2).mono ?_;rintro e w3 ⟨rfl,b3⟩;rw[←HXX.out,v2,←HHH.out,←HR2.out];have st3:=st2.next b3;have e1:=st3.x0;have e2:=st3.x1;have e3:=st3.y0;have e4:=st3.y1;dsimp only at e1 e2 e3 e4))
  all_goals
   go_wp2_with fail
   go_ret
   refine⟨?_,st3.b⟩
   unfold inH;rw[decide_eq_true HXH.out,Bool.true_and,←ordI_ge (a:=X) (b := -H),←HR2.out]
   rfl
 ·obtain⟨r,hr⟩:∃r,r=ordI X H:=⟨_,rfl⟩
  have t1:decide (r<0)=false:=by rw[hr,ordI_lt];exact decide_eq_false hxh
  have HRr:=Lib.hid hr;have HXH:=Lib.hid hxh;clear hr hxh
  go_enter Tryz.func95,Tryz.ntmps95
  go_wp2_with fail
  go_region_with (go_at_call 55;refine(bcmp_any s t_ A B c d xs ys _ (PB.ux (w:=w) (B:=w.heap.size) (x:=(s,A,c,xs)) (y:=(t_,B,d,ys)) st) (PB.uy (w:=w) (B:=w.heap.size) (x:=(s,A,c,xs)) (y:=(t_,B,d,ys)) st) HL.out (by have:=KL.out;omega) HC.out KC.out).mono ?_;rintro e w1 ⟨rfl,b1⟩;rw[←HXX.out,←HHH.out,←HRr.out];have st1:=st.next b1;have e1:=st1.x0;have e2:=st1.x1;have e3:=st1.y0;have e4:=st1.y1;dsimp only at e1 e2 e3 e4)
  all_goals
   go_wp2_with fail
   go_ret
   refine⟨?_,st1.b⟩
   unfold inH;rw[decide_eq_false (Int.not_lt.2 HXH.out),Bool.false_and]
   rfl
def inL (c:Cl)(lv:Nat):Bool:=inH c.x (p2 (lv-1))&&inH c.y (p2 (lv-1))
def upL (c:Cl)(lv:Nat):Nat:=if h:lv≤1329 then (if inL c lv=true then lv else upL c (lv+1)) else lv
 termination_by 1330-lv
theorem upL_stop {c:Cl}{lv:Nat}(h:inL c lv=true):upL c lv=lv:=by
 by_cases h9:lv≤1329
 ·rw[upL,dif_pos h9,if_pos h]
 ·rw[upL,dif_neg h9]
theorem upL_top {c:Cl}{lv:Nat}(h:¬ lv≤1329):upL c lv=lv:=by
 rw[upL,dif_neg h]
theorem upL_next {c:Cl}{lv:Nat}(h:lv≤1329)(h2:inL c lv=false):upL c lv=upL c (lv+1):=by
 rw[upL,dif_pos h,if_neg (by rw[h2];simp)]
def leastF (l:List Cl):Nat:=l.foldl (fun lv c=>upL c lv) 1
theorem leastF_snoc (l:List Cl)(c:Cl):leastF (l++[c])=upL c (leastF l):=by
 unfold leastF
 rw[List.foldl_append]
 rfl
theorem leastF_take {l:List Cv}{k:Nat}(hk:k<l.length):leastF ((l.take (k+1)).map Cv.cl)=upL (cat l k).cl (leastF ((l.take k).map Cv.cl)):=by
 rw[←List.take_append_getElem (l:=l) (i:=k) hk,List.map_append,List.map_cons,List.map_nil,leastF_snoc,←cat_get hk]
theorem us_off {w:World}{A:Option Addr}{c:Nat}{xs:List Nat}(h:Us w A c xs){g:Nat}(hg:∀o v,w.cell? ⟨g,o,none⟩=some v→∀k,v≠.int .u32 k):0<xs.length→∀a,A=some a→a.block≠g:=fun hx a e he=>by
 obtain⟨b,off,e',hb,hc⟩:=h.at_ hx
 rw[e] at e'
 cases e'
 dsimp only at he
 subst he
 exact hg _ _ (hc 0 hx) _ rfl
structure HX (W:World)(g:Nat)(s:Bool)(A:Option Addr)(c:Nat)(xs:List Nat)(n:Int):Prop where
 box:W.heap[g]?=some (.cells #[.bool s,.slice A xs.length c] 31)
 us:Us W A c xs
 cn:CanonI s xs
 v:ival s xs=n
 off:0<xs.length→∀a,A=some a→a.block≠g
theorem HX.lt {W:World}{g:Nat}{s:Bool}{A:Option Addr}{c:Nat}{xs:List Nat}{n:Int}(h:HX W g s A c xs n):g<W.heap.size:=(Array.getElem?_eq_some_iff.1 h.box).1
theorem HX.c0 {W:World}{g:Nat}{s:Bool}{A:Option Addr}{c:Nat}{xs:List Nat}{n:Int}(h:HX W g s A c xs n):W.cell? ⟨g,0,none⟩=some (.bool s):=by
 rw[cell_of_row W g _ _ _ _ h.box];rfl
theorem HX.c1 {W:World}{g:Nat}{s:Bool}{A:Option Addr}{c:Nat}{xs:List Nat}{n:Int}(h:HX W g s A c xs n):W.cell? ⟨g,1,none⟩=some (.slice A xs.length c):=by
 rw[cell_of_row W g _ _ _ _ h.box];rfl
theorem HX.free {W:World}{g:Nat}{s:Bool}{A:Option Addr}{c:Nat}{xs:List Nat}{n:Int}(h:HX W g s A c xs n)(k:Nat):W.frozen? ⟨g,k,none⟩=false:=frozen_of_row W g k _ _ h.box
theorem HX.next {W W1:World}{g:Nat}{s:Bool}{A:Option Addr}{c:Nat}{xs:List Nat}{n:Int}(h:HX W g s A c xs n)(k:Below W.heap.size W W1):HX W1 g s A c xs n :=
 ⟨(k.block g h.lt).trans h.box,h.us.below k,h.cn,h.v,h.off⟩
theorem bool_cell {W:World}{g:Nat}{s:Bool}{A:Option Addr}{n c:Nat}(h:W.heap[g]?=some (.cells #[.bool s,.slice A n c] 31)):∀o v,W.cell? ⟨g,o,none⟩=some v→∀k,v≠.int .u32 k:=fun o v hv k e=>by
 subst e
 rw[cell_of_row W g _ _ _ _ h] at hv
 match o with
 | 0=>simp at hv
 | 1=>simp at hv
 | o+2=>simp at hv
theorem HX.set {W:World}{g:Nat}{s s2:Bool}{A A2:Option Addr}{c c2:Nat}{xs ys:List Nat}{n m:Int}(h:HX W g s A c xs n)(hu:Us W A2 c2 ys)(hc:CanonI s2 ys)(hv:ival s2 ys=m) :
  HX ((W.setCell ⟨g,0,none⟩ (.bool s2)).setCell ⟨g,1,none⟩ (.slice A2 ys.length c2)) g s2 A2 c2 ys m:=by
 have ho:=us_off hu (bool_cell h.box)
 have hk:∀k,k<W.heap.size→k≠g→((W.setCell ⟨g,0,none⟩ (.bool s2)).setCell ⟨g,1,none⟩ (.slice A2 ys.length c2)).heap[k]?=W.heap[k]?:=fun k _ hk =>
  (Below.heap_setCell _ _ _ _ hk).trans (Below.heap_setCell _ _ _ _ hk)
 exact⟨heap_setCell_same _ g 1 _ _ _ (heap_setCell_same W g 0 _ _ _ h.box),us_kept hu hk (by simp[World.setCell]) ho,hc,hv,ho⟩
theorem shl_p2 (n:Nat):shlI (p2 n) 1=p2 (n+1):=by
 unfold shlI
 rw[if_pos (by decide),p2_succ]
 show p2 n*2^1=_
 omega
theorem len_p2 {s:Bool}{xs:List Nat}{n:Nat}(hc:CanonI s xs)(hv:ival s xs=p2 n)(hn:n≤1330):xs.length≤50:=by
 refine len_ival hc hv 50 ?_
 unfold p2
 obtain⟨M,hM⟩:∃M,M=50:=⟨_,rfl⟩
 rw[←hM,show((2:Int)^n).natAbs=2^n by rw[Int.natAbs_pow];rfl,show(4294967296:Nat)=2^32 by decide,←Nat.pow_mul]
 exact Nat.pow_lt_pow_right (by decide) (by omega)
theorem least_any (A0:Option Addr)(c0 n:Nat)(l:List Cv)(w:World)(h:Cs w A0 c0 l)(hn:l.length=n)(hR:∀v∈l,CvR v)(hn9:n≤900000) :
  Calls Tryz.prog 67 #[.slice A0 n c0] w fun e w'=>e=.returned (.int .i64 (leastF (l.map Cv.cl):Nat))∧Below w.heap.size w w':=by
 have hcap:=h.cap
 rw[hn] at hcap
 have HC:=Lib.hid h
 have HN:=Lib.hid hn
 have HR:=Lib.hid hR
 clear h hR hn
 go_enter Tryz.func67,Tryz.ntmps67
 go_wp2_with (go_at_call 54;refine(bof_any 1 _ (by decide) (by decide)).mono ?_;rintro e w1 ⟨A1,c1,s1,r1,rfl,q1,k1,v1,b1⟩;have HB1:=Lib.hid b1;have HU1:=Lib.hid q1;have HK1:=Lib.hid k1;have HV1:=Lib.hid v1;clear b1 q1 k1 v1)
 obtain⟨g,hg⟩:∃g,g=w1.heap.size:=⟨_,rfl⟩
 rw[←hg]
 have HG:=Lib.hid (show w.heap.size≤g by rw[hg];exact HB1.out.size)
 have hx0:HX (w1.alloc (.cells #[.bool s1,.slice A1 r1.length c1] 31)) g s1 A1 c1 r1 (p2 0):=by
  rw[hg];have hb:=heap_alloc_new w1 (.cells #[.bool s1,.slice A1 r1.length c1] 31)
  exact⟨hb,HU1.out.below ((Below.refl _ w1).alloc (Nat.le_refl _) _),HK1.out,HV1.out,fun hx a e=>by have:=us_lt HU1.out hx a e;omega⟩
 have HX0:=Lib.hid hx0
 have HB2:=Lib.hid (HB1.out.alloc HB1.out.size (.cells #[.bool s1,.slice A1 r1.length c1] 31))
 clear hg hx0
 go_loopw [10,3] (fun z1 z2 wr=>∃(k lv:Nat) (s:Bool) (A:Option Addr) (c:Nat) (xs:List Nat),k≤n∧z1=.int .i64 k∧z2=.int .i64 lv∧1≤lv∧lv≤1330∧leastF ((l.take k).map Cv.cl)=lv∧HX wr g s A c xs (p2 (lv-1))∧Below w.heap.size w wr) (fun z1 _ _=>n-(intOf z1).toNat)
 case atStart=>exact⟨0,1,s1,A1,c1,r1,by omega,rfl,rfl,by omega,by omega,rfl,HX0.out,HB2.out⟩
 case round =>
  obtain⟨k,lv,s,A,c,xs,hk,rfl,rfl,hl1,hl2,hlv,hx,hb⟩:=hrel
  have HLV:=Lib.hid hlv;have HXX:=Lib.hid hx;have HBB:=Lib.hid hb;clear hlv;by_cases hlt:k<n
  ·have i1:(k:Int)<(n:Int):=by omega
   have i2:(0:Int)≤(k:Int):=by omega
   have t1:decide ((k:Int)<(n:Int))=true:=decide_eq_true i1
   obtain⟨b,off,rfl,hbl,hcl⟩:=(HC.out.below hb).at_ (by rw[HN.out];omega)
   obtain⟨c1_,c2_,c3_,c4_,c5_⟩:=hcl k (by rw[HN.out];exact hlt)
   have hvu:=(HC.out.below hb).1 _ (cat_mem (i:=k) (by rw[HN.out];exact hlt))
   have hvr:=HR.out _ (cat_mem (i:=k) (by rw[HN.out];exact hlt))
   obtain⟨v,hv⟩:∃v,v=cat l k:=⟨_,rfl⟩
   rw[←hv] at c1_ c2_ c3_ c4_ c5_ hvu hvr;have hv1:=hvu.1.cap
   have hv2:=hvu.2.1.cap
   have HV:=Lib.hid hv;have HVU:=Lib.hid hvu;have HVR:=Lib.hid hvr;have HCL:=Lib.hid hcl;clear hv hvu hvr hcl hx hb;go_wp2_with fail
   obtain⟨bx,hbx⟩:∃bx,bx=wr.heap.size:=⟨_,rfl⟩
   rw[←hbx];have hgx:Gro wr (wr.alloc (.cells #[.bool v.sx,.slice v.ax v.xs.length v.cx,.bool v.sy,.slice v.ay v.ys.length v.cy,.int .u8 v.st] 83)):=(Gro.refl wr).alloc _
   have hcv:CvAt (wr.alloc (.cells #[.bool v.sx,.slice v.ax v.xs.length v.cx,.bool v.sy,.slice v.ay v.ys.length v.cy,.int .u8 v.st] 83)) bx 0 v:=by rw[hbx];exact CvAt.new wr v _
   have hbxg:g<bx:=by rw[hbx];exact HXX.out.lt
   have hbxl:bx<(wr.alloc (.cells #[.bool v.sx,.slice v.ax v.xs.length v.cx,.bool v.sy,.slice v.ay v.ys.length v.cy,.int .u8 v.st] 83)).heap.size:=by rw[hbx];simp
   have HXA:=Lib.hid (HXX.out.next hgx.b)
   have HBA:=Lib.hid (HBB.out.trans (hgx.b.mono HBB.out.size))
   have HUA:=Lib.hid (HVU.out.below hgx.b)
   clear hbx hgx
   go_loopw [3] (fun z2 wi=>∃(lw:Nat) (s:Bool) (A:Option Addr) (c:Nat) (xs:List Nat),z2=.int .i64 lw∧1≤lw∧lw≤1330∧upL v.cl lv=upL v.cl lw∧HX wi g s A c xs (p2 (lw-1))∧CvAt wi bx 0 v∧CvU wi v∧bx<wi.heap.size∧Below w.heap.size w wi) (fun z2 _=>1330-(intOf z2).toNat)
   case atStart=>exact⟨lv,s,A,c,xs,rfl,hl1,hl2,rfl,HXA.out,hcv,HUA.out,hbxl,HBA.out⟩
   case round =>
    obtain⟨lw,s,A,c,xs,rfl,h1,h2,hup,hxi,hci,hui,hli,hbi⟩:=hrel
    have HUP:=Lib.hid hup;have HIX:=Lib.hid hxi;have HIU:=Lib.hid hui;have HIC:=Lib.hid hci;have HIL:=Lib.hid hli;have HIB:=Lib.hid hbi;have HLN:=Lib.hid (len_p2 hxi.cn hxi.v (by omega))
    have HGX:=Lib.hid hbxg;obtain⟨d1,d2,d3,d4,d5⟩:=hci
    have x1:=hxi.c0
    have x2:=hxi.c1
    have x3:=hxi.free 0
    have x4:=hxi.free 1
    have hxc:=hxi.us.cap
    clear hup hxi hui hli hbi hcv;by_cases hL:lw≤1329
    ·have t2:decide ((lw:Int)≤1329)=true:=decide_eq_true (by omega)
     obtain⟨bX,hbX⟩:∃bX,bX=inH (ival v.sx v.xs) (ival s xs):=⟨_,rfl⟩
     obtain⟨bY,hbY⟩:∃bY,bY=inH (ival v.sy v.ys) (ival s xs):=⟨_,rfl⟩
     have HQX:=Lib.hid hbX;have HQY:=Lib.hid hbY;have HVX:=Lib.hid (show bX=inH v.cl.x (p2 (lw-1)) by rw[←HIX.out.v];exact hbX)
     have HVY:=Lib.hid (show bY=inH v.cl.y (p2 (lw-1)) by rw[←HIX.out.v];exact hbY)
     clear hbX hbY;cases bX with
     | false =>
      go_wp2_with (first
       | (go_at_call_of 95 (Value.agg #[Value.bool v.sx,Value.slice v.ax v.xs.length v.cx]);refine(cwithin_any v.sx s v.ax A v.cx c v.xs xs _ HIU.out.1 HIX.out.us HVR.out.2.2.1 (by have:=HLN.out;omega) HVR.out.1 HIX.out.cn).mono ?_;rintro e w5 ⟨rfl,b5⟩;rw[←HQX.out];have HIX5:=Lib.hid (HIX.out.next b5);have HIU5:=Lib.hid (HIU.out.below b5);have HIC5:=Lib.hid (HIC.out.below (b5.block bx HIL.out));have HIL5:=Lib.hid (Nat.lt_of_lt_of_le HIL.out b5.size);have HIB5:=Lib.hid (HIB.out.trans (b5.mono HIB.out.size));clear b5;obtain⟨f1,f2,f3,f4,f5⟩:=HIC5.out;have y1:=HIX5.out.c0;have y2:=HIX5.out.c1;have y3:=HIX5.out.free 0;have y4:=HIX5.out.free 1)
       | (go_at_call 96;refine(bshl_any s A c xs 1 _ HIX5.out.us (by have:=HLN.out;omega)).mono ?_;rintro e w7 ⟨A7,c7,s7,r7,rfl,u7,k7,v7,b7⟩;have HIX7:=Lib.hid (HIX5.out.next b7);have HU7:=Lib.hid u7;have HK7:=Lib.hid k7;have HV7:=Lib.hid v7;have HIU7:=Lib.hid (HIU5.out.below b7);have HIC7:=Lib.hid (HIC5.out.below (b7.block bx HIL5.out));have HIL7:=Lib.hid (Nat.lt_of_lt_of_le HIL5.out b7.size);have HIB7:=Lib.hid (HIB5.out.trans (b7.mono HIB5.out.size));clear u7 k7 v7 b7;have g1:=HIX7.out.c0;have g2:=HIX7.out.c1;have g3:=HIX7.out.free 0;have g4:=HIX7.out.free 1))
      go_roundw
      case rel =>
       have hx7:HX ((w7.setCell ⟨g,0,none⟩ (.bool s7)).setCell ⟨g,1,none⟩ (.slice A7 r7.length c7)) g s7 A7 c7 r7 (p2 (lw+1-1)):=HIX7.out.set HU7.out HK7.out (by rw[HV7.out,HIX.out.v,shl_p2,show lw-1+1=lw+1-1 by omega])
       have hkk:∀q,q≠g→((w7.setCell ⟨g,0,none⟩ (.bool s7)).setCell ⟨g,1,none⟩ (.slice A7 r7.length c7)).heap[q]?=w7.heap[q]?:=fun q hq=>(Below.heap_setCell _ _ _ _ hq).trans (Below.heap_setCell _ _ _ _ hq)
       refine⟨lw+1,s7,A7,c7,r7,by go_num,by omega,by omega,?_,hx7,HIC7.out.below (hkk bx (by have:=HGX.out;omega)),?_,by simp[World.setCell];exact HIL7.out,(HIB7.out.setCell (p:=⟨g,0,none⟩) HG.out _).setCell (p:=⟨g,1,none⟩) HG.out _⟩
       ·rw[HUP.out];exact upL_next hL (by unfold inL;rw[←HVX.out,←HVY.out];simp)
       ·refine cvU_kept HIU7.out (fun q _ hq=>hkk q hq) (by simp[World.setCell]) ⟨us_off HIU7.out.1 (bool_cell HIX7.out.box),us_off HIU7.out.2.1 (bool_cell HIX7.out.box)⟩
      case measure=>simp[intOf];omega
     | true =>
      cases bY with
      | false =>
       go_wp2_with (first
        | (go_at_call_of 95 (Value.agg #[Value.bool v.sx,Value.slice v.ax v.xs.length v.cx]);refine(cwithin_any v.sx s v.ax A v.cx c v.xs xs _ HIU.out.1 HIX.out.us HVR.out.2.2.1 (by have:=HLN.out;omega) HVR.out.1 HIX.out.cn).mono ?_;rintro e w5 ⟨rfl,b5⟩;rw[←HQX.out];have HIX5:=Lib.hid (HIX.out.next b5);have HIU5:=Lib.hid (HIU.out.below b5);have HIC5:=Lib.hid (HIC.out.below (b5.block bx HIL.out));have HIL5:=Lib.hid (Nat.lt_of_lt_of_le HIL.out b5.size);have HIB5:=Lib.hid (HIB.out.trans (b5.mono HIB.out.size));clear b5;obtain⟨f1,f2,f3,f4,f5⟩:=HIC5.out;have y1:=HIX5.out.c0;have y2:=HIX5.out.c1;have y3:=HIX5.out.free 0;have y4:=HIX5.out.free 1)
        | (go_at_call_of 95 (Value.agg #[Value.bool v.sy,Value.slice v.ay v.ys.length v.cy]);refine(cwithin_any v.sy s v.ay A v.cy c v.ys xs _ HIU5.out.2.1 HIX5.out.us HVR.out.2.2.2 (by have:=HLN.out;omega) HVR.out.2.1 HIX5.out.cn).mono ?_;rintro e w6 ⟨rfl,b6⟩;rw[←HQY.out];have HIX6:=Lib.hid (HIX5.out.next b6);have HIU6:=Lib.hid (HIU5.out.below b6);have HIC6:=Lib.hid (HIC5.out.below (b6.block bx HIL5.out));have HIL6:=Lib.hid (Nat.lt_of_lt_of_le HIL5.out b6.size);have HIB6:=Lib.hid (HIB5.out.trans (b6.mono HIB5.out.size));clear b6;have z1:=HIX6.out.c0;have z2:=HIX6.out.c1;have z3:=HIX6.out.free 0;have z4:=HIX6.out.free 1)
        | (go_at_call 96;refine(bshl_any s A c xs 1 _ HIX6.out.us (by have:=HLN.out;omega)).mono ?_;rintro e w7 ⟨A7,c7,s7,r7,rfl,u7,k7,v7,b7⟩;have HIX7:=Lib.hid (HIX6.out.next b7);have HU7:=Lib.hid u7;have HK7:=Lib.hid k7;have HV7:=Lib.hid v7;have HIU7:=Lib.hid (HIU6.out.below b7);have HIC7:=Lib.hid (HIC6.out.below (b7.block bx HIL6.out));have HIL7:=Lib.hid (Nat.lt_of_lt_of_le HIL6.out b7.size);have HIB7:=Lib.hid (HIB6.out.trans (b7.mono HIB6.out.size));clear u7 k7 v7 b7;have g1:=HIX7.out.c0;have g2:=HIX7.out.c1;have g3:=HIX7.out.free 0;have g4:=HIX7.out.free 1))
       go_roundw
       case rel =>
        have hx7:HX ((w7.setCell ⟨g,0,none⟩ (.bool s7)).setCell ⟨g,1,none⟩ (.slice A7 r7.length c7)) g s7 A7 c7 r7 (p2 (lw+1-1)):=HIX7.out.set HU7.out HK7.out (by rw[HV7.out,HIX.out.v,shl_p2,show lw-1+1=lw+1-1 by omega])
        have hkk:∀q,q≠g→((w7.setCell ⟨g,0,none⟩ (.bool s7)).setCell ⟨g,1,none⟩ (.slice A7 r7.length c7)).heap[q]?=w7.heap[q]?:=fun q hq=>(Below.heap_setCell _ _ _ _ hq).trans (Below.heap_setCell _ _ _ _ hq)
        refine⟨lw+1,s7,A7,c7,r7,by go_num,by omega,by omega,?_,hx7,HIC7.out.below (hkk bx (by have:=HGX.out;omega)),?_,by simp[World.setCell];exact HIL7.out,(HIB7.out.setCell (p:=⟨g,0,none⟩) HG.out _).setCell (p:=⟨g,1,none⟩) HG.out _⟩
        ·rw[HUP.out];exact upL_next hL (by unfold inL;rw[←HVX.out,←HVY.out];simp)
        ·refine cvU_kept HIU7.out (fun q _ hq=>hkk q hq) (by simp[World.setCell]) ⟨us_off HIU7.out.1 (bool_cell HIX7.out.box),us_off HIU7.out.2.1 (bool_cell HIX7.out.box)⟩
       case measure=>simp[intOf];omega
      | true =>
       go_wp2_with (first
        | (go_at_call_of 95 (Value.agg #[Value.bool v.sx,Value.slice v.ax v.xs.length v.cx]);refine(cwithin_any v.sx s v.ax A v.cx c v.xs xs _ HIU.out.1 HIX.out.us HVR.out.2.2.1 (by have:=HLN.out;omega) HVR.out.1 HIX.out.cn).mono ?_;rintro e w5 ⟨rfl,b5⟩;rw[←HQX.out];have HIX5:=Lib.hid (HIX.out.next b5);have HIU5:=Lib.hid (HIU.out.below b5);have HIC5:=Lib.hid (HIC.out.below (b5.block bx HIL.out));have HIL5:=Lib.hid (Nat.lt_of_lt_of_le HIL.out b5.size);have HIB5:=Lib.hid (HIB.out.trans (b5.mono HIB.out.size));clear b5;obtain⟨f1,f2,f3,f4,f5⟩:=HIC5.out;have y1:=HIX5.out.c0;have y2:=HIX5.out.c1;have y3:=HIX5.out.free 0;have y4:=HIX5.out.free 1)
        | (go_at_call_of 95 (Value.agg #[Value.bool v.sy,Value.slice v.ay v.ys.length v.cy]);refine(cwithin_any v.sy s v.ay A v.cy c v.ys xs _ HIU5.out.2.1 HIX5.out.us HVR.out.2.2.2 (by have:=HLN.out;omega) HVR.out.2.1 HIX5.out.cn).mono ?_;rintro e w6 ⟨rfl,b6⟩;rw[←HQY.out];have HIX6:=Lib.hid (HIX5.out.next b6);have HIU6:=Lib.hid (HIU5.out.below b6);have HIC6:=Lib.hid (HIC5.out.below (b6.block bx HIL5.out));have HIL6:=Lib.hid (Nat.lt_of_lt_of_le HIL5.out b6.size);have HIB6:=Lib.hid (HIB5.out.trans (b6.mono HIB5.out.size));clear b6;have z1:=HIX6.out.c0;have z2:=HIX6.out.c1;have z3:=HIX6.out.free 0;have z4:=HIX6.out.free 1))
       go_roundw
       case rel =>
        refine⟨k+1,lw,s,A,c,xs,by omega,by go_num,rfl,by omega,by omega,?_,HIX6.out,HIB6.out⟩
        rw[leastF_take (by rw[HN.out];exact hlt),←HV.out,HLV.out,HUP.out]
        exact upL_stop (by unfold inL;rw[←HVX.out,←HVY.out];rfl)
       case measure=>simp[intOf];omega
    ·have t2:decide ((lw:Int)≤1329)=false:=decide_eq_false (by omega)
     go_wp2_with fail
     go_roundw
     case rel =>
      refine⟨k+1,lw,s,A,c,xs,by omega,by go_num,rfl,by omega,by omega,?_,HIX.out,HIB.out⟩
      rw[leastF_take (by rw[HN.out];exact hlt),←HV.out,HLV.out,HUP.out]
      exact upL_top hL
     case measure=>simp[intOf];omega
  ·obtain rfl:k=n:=by omega
   have t1:decide ((k:Int)<(k:Int))=false:=decide_eq_false (by omega)
   clear hx hb;go_wp2_with fail
   go_ret
   refine⟨?_,HBB.out⟩
   rw[←HLV.out,List.take_of_length_le (by rw[HN.out];exact Nat.le_refl _)]
   rfl
theorem pow_p2 (n:Nat)(h:n≤1330):shlI 1 (n:Int)=p2 n:=by
 unfold shlI p2
 rw[if_pos (by omega),Int.toNat_natCast,Int.one_mul]
structure WI (w:World)(v:Cv)(g h:Nat)(s:Bool)(A:Option Addr)(c:Nat)(xs:List Nat)(t:Bool)(B:Option Addr)(d:Nat)(ys:List Nat)(n:Int)(W:World):Prop where
 b:Below w.heap.size w W
 lt:w.heap.size<W.heap.size
 bv:CvAt W w.heap.size 0 v
 uv:CvU W v
 p:HX W g s A c xs n
 l:HX W h t B d ys (-n)
theorem WI.next {w:World}{v:Cv}{g h:Nat}{s:Bool}{A:Option Addr}{c:Nat}{xs:List Nat}{t:Bool}{B:Option Addr}{d:Nat}{ys:List Nat}{n:Int}{W W1:World}(k:WI w v g h s A c xs t B d ys n W)(q:Below W.heap.size W W1):WI w v g h s A c xs t B d ys n W1 :=
 ⟨k.b.trans (q.mono k.b.size),Nat.lt_of_lt_of_le k.lt q.size,k.bv.below (q.block _ k.lt),k.uv.below q,k.p.next q,k.l.next q⟩
theorem inL_eq (x y h:Int):(inH x h&&inH y h)=(decide (-h≤x)&&decide (x<h)&&decide (-h≤y)&&decide (y<h)):=by
 unfold inH
 by_cases h1:x<h <;> by_cases h2 : -h≤x <;> by_cases h3:y<h <;> by_cases h4 : -h≤y <;> simp[h1,h2,h3,h4]
theorem rwithin_any (v:Cv)(lv:Nat)(w:World)(h:CvU w v)(h1:v.xs.length≤60000)(h2:v.ys.length≤60000)(hl1:1≤lv)(hl2:lv≤1330) :
  Calls Tryz.prog 50 #[cvv v,.int .i64 (lv:Int)] w fun e w'=>e=.returned (.bool (inL v.cl lv))∧Below w.heap.size w w':=by
 obtain⟨m,rfl⟩:∃m,lv=m+1:=⟨lv-1,by omega⟩
 have e0:(((m+1:Nat):Int))=(m:Int)+1:=by omega
 rw[e0]
 have hv1:=h.1.cap
 have hv2:=h.2.1.cap
 obtain⟨W,hW⟩:∃W:World,W=w.alloc (.cells #[.bool v.sx,.slice v.ax v.xs.length v.cx,.bool v.sy,.slice v.ay v.ys.length v.cy,.int .u8 v.st] 83):=⟨_,rfl⟩
 have hb:Below w.heap.size w W:=by rw[hW];exact(Below.refl _ w).alloc (Nat.le_refl _) _
 have HW:=Lib.hid hW
 have HB:=Lib.hid hb
 have HLT:=Lib.hid (show w.heap.size<W.heap.size by rw[hW];simp)
 have HCV:=Lib.hid (show CvAt W w.heap.size 0 v by rw[hW];exact CvAt.new w v _)
 have HCU:=Lib.hid (h.below hb)
 obtain⟨R,hR⟩:∃R,R=inL v.cl (m+1):=⟨_,rfl⟩
 rw[←hR]
 have hR':R=(decide (-p2 m≤ival v.sx v.xs)&&decide (ival v.sx v.xs<p2 m)&&decide (-p2 m≤ival v.sy v.ys)&&decide (ival v.sy v.ys<p2 m)):=by
  rw[hR,←inL_eq]
  rfl
 have HR:=Lib.hid hR'
 clear h hb e0 hR hR'
 obtain⟨ra,hra⟩:∃r,r=ordI (ival v.sx v.xs) (-p2 m):=⟨_,rfl⟩
 obtain⟨rb,hrb⟩:∃r,r=ordI (ival v.sx v.xs) (p2 m):=⟨_,rfl⟩
 obtain⟨rc,hrc⟩:∃r,r=ordI (ival v.sy v.ys) (-p2 m):=⟨_,rfl⟩
 obtain⟨rd,hrd⟩:∃r,r=ordI (ival v.sy v.ys) (p2 m):=⟨_,rfl⟩
 have ea:decide (ra≥0)=decide (-p2 m≤ival v.sx v.xs):=by rw[hra,ordI_ge]
 have eb:decide (rb<0)=decide (ival v.sx v.xs<p2 m):=by rw[hrb,ordI_lt]
 have ec:decide (rc≥0)=decide (-p2 m≤ival v.sy v.ys):=by rw[hrc,ordI_ge]
 have ed:decide (rd<0)=decide (ival v.sy v.ys<p2 m):=by rw[hrd,ordI_lt]
 rw[←ea,←eb,←ec,←ed] at HR
 have HRA:=Lib.hid hra
 have HRB:=Lib.hid hrb
 have HRC:=Lib.hid hrc
 have HRD:=Lib.hid hrd
 clear hra hrb hrc hrd ea eb ec ed
 have q0:True:=trivial
 by_cases ta:ra≥0
 ·have xa:decide (ra≥0)=true:=decide_eq_true ta
  by_cases tb:rb<0
  ·have xb:decide (rb<0)=true:=decide_eq_true tb
   by_cases tc:rc≥0
   ·have xc:decide (rc≥0)=true:=decide_eq_true tc
    rw[xa,xb,xc] at HR;clear ta tb tc
    go_enter Tryz.func50,Tryz.ntmps50
    go_wp2_with (first
     | (go_at_call 44;go_loud (rw[←HW.out];refine(rbpow_any _ _).mono ?_;rintro e w5 ⟨A5,c5,s5,r5,rfl,u5,k5,v5,b5⟩;rw[pow_p2 m (by omega)] at v5;have U5:=Lib.hid u5;have K5:=Lib.hid k5;have V5:=Lib.hid v5;have B5:=Lib.hid b5;have hg5:=heap_alloc_new w5 (.cells #[.bool s5,.slice A5 r5.length c5] 31);have bl5:=(Below.refl w5.heap.size w5).alloc (Nat.le_refl _) (.cells #[.bool s5,.slice A5 r5.length c5] 31);have H5:=Lib.hid (show HX (w5.alloc (.cells #[.bool s5,.slice A5 r5.length c5] 31)) w5.heap.size s5 A5 c5 r5 (p2 m) from⟨hg5,u5.below bl5,k5,v5,fun hx a e=>by have:=us_lt u5 hx a e;omega⟩);have BL5:=Lib.hid bl5;clear u5 k5 v5 b5 hg5 bl5))
     | (go_at_call 51;go_loud (refine(rminus_any s5 A5 c5 r5 _ H5.out.us (by have:=len_p2 K5.out V5.out (by omega);omega)).mono ?_;rintro e w6 ⟨A6,c6,s6,r6,rfl,u6,k6,v6,b6⟩;rw[V5.out] at v6;have hg6:=heap_alloc_new w6 (.cells #[.bool s6,.slice A6 r6.length c6] 31);have bl6:=(Below.refl w6.heap.size w6).alloc (Nat.le_refl _) (.cells #[.bool s6,.slice A6 r6.length c6] 31);have b56:=BL5.out.trans (b6.mono BL5.out.size) |>.trans (bl6.mono (Nat.le_trans BL5.out.size b6.size));have S1:=Lib.hid (show WI w v w5.heap.size w6.heap.size s5 A5 c5 r5 s6 A6 c6 r6 (p2 m) (w6.alloc (.cells #[.bool s6,.slice A6 r6.length c6] 31)) from⟨HB.out.trans ((B5.out.mono HB.out.size).trans (b56.mono (Nat.le_trans HB.out.size B5.out.size))),Nat.lt_of_lt_of_le HLT.out (Nat.le_trans B5.out.size b56.size),(HCV.out.below (B5.out.block _ HLT.out)).below (b56.block _ (Nat.lt_of_lt_of_le HLT.out B5.out.size)),(HCU.out.below B5.out).below b56,(H5.out.next b6).next bl6,⟨hg6,u6.below bl6,k6,v6,fun hx a e=>by have:=us_lt u6 hx a e;omega⟩⟩);have HL56:=Lib.hid (And.intro (len_p2 K5.out V5.out (by omega)) (show r6.length≤50 from by have h3:=len_p2 K5.out V5.out (by omega);have h4:=abs_of_len (s:=s5) U5.out.1 h3;rw[V5.out] at h4;exact len_ival k6 v6 50 (by rw[Int.natAbs_neg];exact h4)));clear u6 k6 v6 b6 hg6 bl6 b56;obtain⟨f1,f2,f3,f4,f5⟩:=S1.out.bv;have p1:=S1.out.p.c0;have p2_:=S1.out.p.c1;have l1:=S1.out.l.c0;have l2:=S1.out.l.c1))
     | (have _t:=q0;go_at_call 62;clear _t;go_loud (refine(rbcmp_any v.sx s6 v.ax A6 v.cx c6 v.xs r6 _ S1.out.uv.1 S1.out.l.us h1 (by have:=HL56.out.2;omega)).mono ?_;rintro e w19 ⟨rfl,b9⟩;rw[S1.out.l.v,←HRA.out];have S2:=Lib.hid (S1.out.next b9);clear b9;obtain⟨f1,f2,f3,f4,f5⟩:=S2.out.bv;have p1:=S2.out.p.c0;have p2_:=S2.out.p.c1;have l1:=S2.out.l.c0;have l2:=S2.out.l.c1;have q1:=q0;clear q0))
     | (have _t:=q1;go_at_call 62;clear _t;go_loud (refine(rbcmp_any v.sx s5 v.ax A5 v.cx c5 v.xs r5 _ S2.out.uv.1 S2.out.p.us h1 (by have:=HL56.out.1;omega)).mono ?_;rintro e w29 ⟨rfl,b9⟩;rw[S2.out.p.v,←HRB.out];have S3:=Lib.hid (S2.out.next b9);clear b9;obtain⟨f1,f2,f3,f4,f5⟩:=S3.out.bv;have p1:=S3.out.p.c0;have p2_:=S3.out.p.c1;have l1:=S3.out.l.c0;have l2:=S3.out.l.c1;have q2:=q1;clear q1))
     | (have _t:=q2;go_at_call 62;clear _t;go_loud (refine(rbcmp_any v.sy s6 v.ay A6 v.cy c6 v.ys r6 _ S3.out.uv.2.1 S3.out.l.us h2 (by have:=HL56.out.2;omega)).mono ?_;rintro e w39 ⟨rfl,b9⟩;rw[S3.out.l.v,←HRC.out];have S4:=Lib.hid (S3.out.next b9);clear b9;obtain⟨f1,f2,f3,f4,f5⟩:=S4.out.bv;have p1:=S4.out.p.c0;have p2_:=S4.out.p.c1;have l1:=S4.out.l.c0;have l2:=S4.out.l.c1;have q3:=q2;clear q2))
     | (have _t:=q3;go_at_call 62;clear _t;go_loud (refine(rbcmp_any v.sy s5 v.ay A5 v.cy c5 v.ys r5 _ S4.out.uv.2.1 S4.out.p.us h2 (by have:=HL56.out.1;omega)).mono ?_;rintro e w49 ⟨rfl,b9⟩;rw[S4.out.p.v,←HRD.out];have S5:=Lib.hid (S4.out.next b9);clear b9;obtain⟨f1,f2,f3,f4,f5⟩:=S5.out.bv;have p1:=S5.out.p.c0;have p2_:=S5.out.p.c1;have l1:=S5.out.l.c0;have l2:=S5.out.l.c1;have q4:=q3;clear q3)))
    go_ret
    refine⟨?_,S5.out.b⟩
    rw[HR.out]
    rfl
   ·have xc:decide (rc≥0)=false:=decide_eq_false tc
    rw[xa,xb,xc] at HR;clear ta tb tc
    go_enter Tryz.func50,Tryz.ntmps50
    go_wp2_with (first
     | (go_at_call 44;go_loud (rw[←HW.out];refine(rbpow_any _ _).mono ?_;rintro e w5 ⟨A5,c5,s5,r5,rfl,u5,k5,v5,b5⟩;rw[pow_p2 m (by omega)] at v5;have U5:=Lib.hid u5;have K5:=Lib.hid k5;have V5:=Lib.hid v5;have B5:=Lib.hid b5;have hg5:=heap_alloc_new w5 (.cells #[.bool s5,.slice A5 r5.length c5] 31);have bl5:=(Below.refl w5.heap.size w5).alloc (Nat.le_refl _) (.cells #[.bool s5,.slice A5 r5.length c5] 31);have H5:=Lib.hid (show HX (w5.alloc (.cells #[.bool s5,.slice A5 r5.length c5] 31)) w5.heap.size s5 A5 c5 r5 (p2 m) from⟨hg5,u5.below bl5,k5,v5,fun hx a e=>by have:=us_lt u5 hx a e;omega⟩);have BL5:=Lib.hid bl5;clear u5 k5 v5 b5 hg5 bl5))
     | (go_at_call 51;go_loud (refine(rminus_any s5 A5 c5 r5 _ H5.out.us (by have:=len_p2 K5.out V5.out (by omega);omega)).mono ?_;rintro e w6 ⟨A6,c6,s6,r6,rfl,u6,k6,v6,b6⟩;rw[V5.out] at v6;have hg6:=heap_alloc_new w6 (.cells #[.bool s6,.slice A6 r6.length c6] 31);have bl6:=(Below.refl w6.heap.size w6).alloc (Nat.le_refl _) (.cells #[.bool s6,.slice A6 r6.length c6] 31);have b56:=BL5.out.trans (b6.mono BL5.out.size) |>.trans (bl6.mono (Nat.le_trans BL5.out.size b6.size));have S1:=Lib.hid (show WI w v w5.heap.size w6.heap.size s5 A5 c5 r5 s6 A6 c6 r6 (p2 m) (w6.alloc (.cells #[.bool s6,.slice A6 r6.length c6] 31)) from⟨HB.out.trans ((B5.out.mono HB.out.size).trans (b56.mono (Nat.le_trans HB.out.size B5.out.size))),Nat.lt_of_lt_of_le HLT.out (Nat.le_trans B5.out.size b56.size),(HCV.out.below (B5.out.block _ HLT.out)).below (b56.block _ (Nat.lt_of_lt_of_le HLT.out B5.out.size)),(HCU.out.below B5.out).below b56,(H5.out.next b6).next bl6,⟨hg6,u6.below bl6,k6,v6,fun hx a e=>by have:=us_lt u6 hx a e;omega⟩⟩);have HL56:=Lib.hid (And.intro (len_p2 K5.out V5.out (by omega)) (show r6.length≤50 from by have h3:=len_p2 K5.out V5.out (by omega);have h4:=abs_of_len (s:=s5) U5.out.1 h3;rw[V5.out] at h4;exact len_ival k6 v6 50 (by rw[Int.natAbs_neg];exact h4)));clear u6 k6 v6 b6 hg6 bl6 b56;obtain⟨f1,f2,f3,f4,f5⟩:=S1.out.bv;have p1:=S1.out.p.c0;have p2_:=S1.out.p.c1;have l1:=S1.out.l.c0;have l2:=S1.out.l.c1))
     | (have _t:=q0;go_at_call 62;clear _t;go_loud (refine(rbcmp_any v.sx s6 v.ax A6 v.cx c6 v.xs r6 _ S1.out.uv.1 S1.out.l.us h1 (by have:=HL56.out.2;omega)).mono ?_;rintro e w19 ⟨rfl,b9⟩;rw[S1.out.l.v,←HRA.out];have S2:=Lib.hid (S1.out.next b9);clear b9;obtain⟨f1,f2,f3,f4,f5⟩:=S2.out.bv;have p1:=S2.out.p.c0;have p2_:=S2.out.p.c1;have l1:=S2.out.l.c0;have l2:=S2.out.l.c1;have q1:=q0;clear q0))
     | (have _t:=q1;go_at_call 62;clear _t;go_loud (refine(rbcmp_any v.sx s5 v.ax A5 v.cx c5 v.xs r5 _ S2.out.uv.1 S2.out.p.us h1 (by have:=HL56.out.1;omega)).mono ?_;rintro e w29 ⟨rfl,b9⟩;rw[S2.out.p.v,←HRB.out];have S3:=Lib.hid (S2.out.next b9);clear b9;obtain⟨f1,f2,f3,f4,f5⟩:=S3.out.bv;have p1:=S3.out.p.c0;have p2_:=S3.out.p.c1;have l1:=S3.out.l.c0;have l2:=S3.out.l.c1;have q2:=q1;clear q1))
     | (have _t:=q2;go_at_call 62;clear _t;go_loud (refine(rbcmp_any v.sy s6 v.ay A6 v.cy c6 v.ys r6 _ S3.out.uv.2.1 S3.out.l.us h2 (by have:=HL56.out.2;omega)).mono ?_;rintro e w39 ⟨rfl,b9⟩;rw[S3.out.l.v,←HRC.out];have S4:=Lib.hid (S3.out.next b9);clear b9;obtain⟨f1,f2,f3,f4,f5⟩:=S4.out.bv;have p1:=S4.out.p.c0;have p2_:=S4.out.p.c1;have l1:=S4.out.l.c0;have l2:=S4.out.l.c1;have q3:=q2;clear q2)))
    go_ret
    refine⟨?_,S4.out.b⟩
    rw[HR.out]
    rfl
  ·have xb:decide (rb<0)=false:=decide_eq_false tb
   rw[xa,xb] at HR;clear ta tb
   go_enter Tryz.func50,Tryz.ntmps50
   go_wp2_with (first
    | (go_at_call 44;go_loud (rw[←HW.out];refine(rbpow_any _ _).mono ?_;rintro e w5 ⟨A5,c5,s5,r5,rfl,u5,k5,v5,b5⟩;rw[pow_p2 m (by omega)] at v5;have U5:=Lib.hid u5;have K5:=Lib.hid k5;have V5:=Lib.hid v5;have B5:=Lib.hid b5;have hg5:=heap_alloc_new w5 (.cells #[.bool s5,.slice A5 r5.length c5] 31);have bl5:=(Below.refl w5.heap.size w5).alloc (Nat.le_refl _) (.cells #[.bool s5,.slice A5 r5.length c5] 31);have H5:=Lib.hid (show HX (w5.alloc (.cells #[.bool s5,.slice A5 r5.length c5] 31)) w5.heap.size s5 A5 c5 r5 (p2 m) from⟨hg5,u5.below bl5,k5,v5,fun hx a e=>by have:=us_lt u5 hx a e;omega⟩);have BL5:=Lib.hid bl5;clear u5 k5 v5 b5 hg5 bl5))
    | (go_at_call 51;go_loud (refine(rminus_any s5 A5 c5 r5 _ H5.out.us (by have:=len_p2 K5.out V5.out (by omega);omega)).mono ?_;rintro e w6 ⟨A6,c6,s6,r6,rfl,u6,k6,v6,b6⟩;rw[V5.out] at v6;have hg6:=heap_alloc_new w6 (.cells #[.bool s6,.slice A6 r6.length c6] 31);have bl6:=(Below.refl w6.heap.size w6).alloc (Nat.le_refl _) (.cells #[.bool s6,.slice A6 r6.length c6] 31);have b56:=BL5.out.trans (b6.mono BL5.out.size) |>.trans (bl6.mono (Nat.le_trans BL5.out.size b6.size));have S1:=Lib.hid (show WI w v w5.heap.size w6.heap.size s5 A5 c5 r5 s6 A6 c6 r6 (p2 m) (w6.alloc (.cells #[.bool s6,.slice A6 r6.length c6] 31)) from⟨HB.out.trans ((B5.out.mono HB.out.size).trans (b56.mono (Nat.le_trans HB.out.size B5.out.size))),Nat.lt_of_lt_of_le HLT.out (Nat.le_trans B5.out.size b56.size),(HCV.out.below (B5.out.block _ HLT.out)).below (b56.block _ (Nat.lt_of_lt_of_le HLT.out B5.out.size)),(HCU.out.below B5.out).below b56,(H5.out.next b6).next bl6,⟨hg6,u6.below bl6,k6,v6,fun hx a e=>by have:=us_lt u6 hx a e;omega⟩⟩);have HL56:=Lib.hid (And.intro (len_p2 K5.out V5.out (by omega)) (show r6.length≤50 from by have h3:=len_p2 K5.out V5.out (by omega);have h4:=abs_of_len (s:=s5) U5.out.1 h3;rw[V5.out] at h4;exact len_ival k6 v6 50 (by rw[Int.natAbs_neg];exact h4)));clear u6 k6 v6 b6 hg6 bl6 b56;obtain⟨f1,f2,f3,f4,f5⟩:=S1.out.bv;have p1:=S1.out.p.c0;have p2_:=S1.out.p.c1;have l1:=S1.out.l.c0;have l2:=S1.out.l.c1))
    | (have _t:=q0;go_at_call 62;clear _t;go_loud (refine(rbcmp_any v.sx s6 v.ax A6 v.cx c6 v.xs r6 _ S1.out.uv.1 S1.out.l.us h1 (by have:=HL56.out.2;omega)).mono ?_;rintro e w19 ⟨rfl,b9⟩;rw[S1.out.l.v,←HRA.out];have S2:=Lib.hid (S1.out.next b9);clear b9;obtain⟨f1,f2,f3,f4,f5⟩:=S2.out.bv;have p1:=S2.out.p.c0;have p2_:=S2.out.p.c1;have l1:=S2.out.l.c0;have l2:=S2.out.l.c1;have q1:=q0;clear q0))
    | (have _t:=q1;go_at_call 62;clear _t;go_loud (refine(rbcmp_any v.sx s5 v.ax A5 v.cx c5 v.xs r5 _ S2.out.uv.1 S2.out.p.us h1 (by have:=HL56.out.1;omega)).mono ?_;rintro e w29 ⟨rfl,b9⟩;rw[S2.out.p.v,←HRB.out];have S3:=Lib.hid (S2.out.next b9);clear b9;obtain⟨f1,f2,f3,f4,f5⟩:=S3.out.bv;have p1:=S3.out.p.c0;have p2_:=S3.out.p.c1;have l1:=S3.out.l.c0;have l2:=S3.out.l.c1;have q2:=q1;clear q1)))
   go_ret
   refine⟨?_,S3.out.b⟩
   rw[HR.out]
   rfl
 ·have xa:decide (ra≥0)=false:=decide_eq_false ta
  rw[xa] at HR;clear ta
  go_enter Tryz.func50,Tryz.ntmps50
  go_wp2_with (first
   | (go_at_call 44;go_loud (rw[←HW.out];refine(rbpow_any _ _).mono ?_;rintro e w5 ⟨A5,c5,s5,r5,rfl,u5,k5,v5,b5⟩;rw[pow_p2 m (by omega)] at v5;have U5:=Lib.hid u5;have K5:=Lib.hid k5;have V5:=Lib.hid v5;have B5:=Lib.hid b5;have hg5:=heap_alloc_new w5 (.cells #[.bool s5,.slice A5 r5.length c5] 31);have bl5:=(Below.refl w5.heap.size w5).alloc (Nat.le_refl _) (.cells #[.bool s5,.slice A5 r5.length c5] 31);have H5:=Lib.hid (show HX (w5.alloc (.cells #[.bool s5,.slice A5 r5.length c5] 31)) w5.heap.size s5 A5 c5 r5 (p2 m) from⟨hg5,u5.below bl5,k5,v5,fun hx a e=>by have:=us_lt u5 hx a e;omega⟩);have BL5:=Lib.hid bl5;clear u5 k5 v5 b5 hg5 bl5))
   | (go_at_call 51;go_loud (refine(rminus_any s5 A5 c5 r5 _ H5.out.us (by have:=len_p2 K5.out V5.out (by omega);omega)).mono ?_;rintro e w6 ⟨A6,c6,s6,r6,rfl,u6,k6,v6,b6⟩;rw[V5.out] at v6;have hg6:=heap_alloc_new w6 (.cells #[.bool s6,.slice A6 r6.length c6] 31);have bl6:=(Below.refl w6.heap.size w6).alloc (Nat.le_refl _) (.cells #[.bool s6,.slice A6 r6.length c6] 31);have b56:=BL5.out.trans (b6.mono BL5.out.size) |>.trans (bl6.mono (Nat.le_trans BL5.out.size b6.size));have S1:=Lib.hid (show WI w v w5.heap.size w6.heap.size s5 A5 c5 r5 s6 A6 c6 r6 (p2 m) (w6.alloc (.cells #[.bool s6,.slice A6 r6.length c6] 31)) from⟨HB.out.trans ((B5.out.mono HB.out.size).trans (b56.mono (Nat.le_trans HB.out.size B5.out.size))),Nat.lt_of_lt_of_le HLT.out (Nat.le_trans B5.out.size b56.size),(HCV.out.below (B5.out.block _ HLT.out)).below (b56.block _ (Nat.lt_of_lt_of_le HLT.out B5.out.size)),(HCU.out.below B5.out).below b56,(H5.out.next b6).next bl6,⟨hg6,u6.below bl6,k6,v6,fun hx a e=>by have:=us_lt u6 hx a e;omega⟩⟩);have HL56:=Lib.hid (And.intro (len_p2 K5.out V5.out (by omega)) (show r6.length≤50 from by have h3:=len_p2 K5.out V5.out (by omega);have h4:=abs_of_len (s:=s5) U5.out.1 h3;rw[V5.out] at h4;exact len_ival k6 v6 50 (by rw[Int.natAbs_neg];exact h4)));clear u6 k6 v6 b6 hg6 bl6 b56;obtain⟨f1,f2,f3,f4,f5⟩:=S1.out.bv;have p1:=S1.out.p.c0;have p2_:=S1.out.p.c1;have l1:=S1.out.l.c0;have l2:=S1.out.l.c1))
   | (have _t:=q0;go_at_call 62;clear _t;go_loud (refine(rbcmp_any v.sx s6 v.ax A6 v.cx c6 v.xs r6 _ S1.out.uv.1 S1.out.l.us h1 (by have:=HL56.out.2;omega)).mono ?_;rintro e w19 ⟨rfl,b9⟩;rw[S1.out.l.v,←HRA.out];have S2:=Lib.hid (S1.out.next b9);clear b9;obtain⟨f1,f2,f3,f4,f5⟩:=S2.out.bv;have p1:=S2.out.p.c0;have p2_:=S2.out.p.c1;have l1:=S2.out.l.c0;have l2:=S2.out.l.c1;have q1:=q0;clear q0)))
  go_ret
  refine⟨?_,S2.out.b⟩
  rw[HR.out]
  rfl
end Go.Proofs.YtikehjindobpkaaGreat

namespace Go.Proofs.YtikehjindobpkaaGreat
open Go.RowKit Nds
theorem cvcs_set:∀(L:List Cv) (i:Nat) (v:Cv),i<L.length →
  cvcs (L.set i v)=(((((cvcs L).set (i*5) (.bool v.sx)).set (i*5+1) (.slice v.ax v.xs.length v.cx)).set (i*5+2) (.bool v.sy)).set (i*5+3) (.slice v.ay v.ys.length v.cy)).set (i*5+4) (.int .u8 v.st)
 | [],i,v,h=>by simp at h
 | x :: L,0,v,h=>rfl
 | x :: L,i+1,v,h=>by
  have ih:=cvcs_set L i v (by simpa using h)
  show encC x++cvcs (L.set i v)=_
  rw[ih];show _=(((((encC x++cvcs L).set ((i+1)*5) _).set ((i+1)*5+1) _).set ((i+1)*5+2) _).set ((i+1)*5+3) _).set ((i+1)*5+4) _
  have e:∀(l:List Value) (k:Nat) (u:Value),(encC x++l).set ((i+1)*5+k) u=encC x++l.set (i*5+k) u:=fun l k u=>by
   rw[List.set_append_right _ _ (by show 5≤_;omega)]
   congr 2
   show(i+1)*5+k-5=_
   omega
  have e0:∀(l:List Value) (u:Value),(encC x++l).set ((i+1)*5) u=encC x++l.set (i*5) u:=fun l u=>e l 0 u
  rw[e0,e,e,e,e]
theorem OwnC.put {w:World}{base g n cap:Nat}{L:List Cv}(h:OwnC w base (.slice (some ⟨g,0,none⟩) n cap) L)(hn:L.length=n){i:Nat}(hi:i<n)(v:Cv) :
  OwnC (((((w.setCell ⟨g,i*5,none⟩ (.bool v.sx)).setCell ⟨g,i*5+1,none⟩ (.slice v.ax v.xs.length v.cx)).setCell ⟨g,i*5+2,none⟩ (.bool v.sy)).setCell ⟨g,i*5+3,none⟩ (.slice v.ay v.ys.length v.cy)).setCell ⟨g,i*5+4,none⟩ (.int .u8 v.st)) base (.slice (some ⟨g,0,none⟩) n cap) (L.set i v):=by
 unfold OwnC at h ⊢
 rw[List.length_set,hn,cvcs_set L i v (by omega)]
 rw[hn] at h
 exact(((((h.stored (i*5) (.bool v.sx)).1.stored (i*5+1) (.slice v.ax v.xs.length v.cx)).1.stored (i*5+2) (.bool v.sy)).1.stored (i*5+3) (.slice v.ay v.ys.length v.cy)).1.stored (i*5+4) (.int .u8 v.st)).1
theorem gb_two {a b c:World}{g:Nat}(h:a.grownBy b (some g))(k:b.grownBy c (some g)):a.grownBy c (some g) :=
 ⟨k.os.trans h.os,k.tape.trans h.tape,k.output.trans h.output,Nat.le_trans h.size k.size,fun i hi hne=>(k.block i (Nat.lt_of_lt_of_le hi h.size) hne).trans (h.block i hi hne)⟩
theorem setC_one (w:World)(g o:Nat)(a:Value):w.grownBy (w.setCell ⟨g,o,none⟩ a) (some g) :=
 ⟨rfl,rfl,rfl,by simp[World.setCell],fun i _ hi=>Below.heap_setCell _ _ _ _ (fun e=>hi (by rw[e]))⟩
theorem setC_grown (w:World)(g o:Nat)(a b c d e:Value):w.grownBy (((((w.setCell ⟨g,o,none⟩ a).setCell ⟨g,o+1,none⟩ b).setCell ⟨g,o+2,none⟩ c).setCell ⟨g,o+3,none⟩ d).setCell ⟨g,o+4,none⟩ e) (some g) :=
 gb_two (gb_two (gb_two (gb_two (setC_one w g o a) (setC_one _ g (o+1) b)) (setC_one _ g (o+2) c)) (setC_one _ g (o+3) d)) (setC_one _ g (o+4) e)
theorem madeC (n:Nat):(madeCells (cvv cv0).cells (n*5)).toList=cvcs (List.replicate n cv0):=by
 refine List.ext_getElem? fun t=>?_
 by_cases ht:t<n*5
 ·obtain⟨i,j,rfl,hj⟩:∃i j,t=i*5+j∧j<5:=⟨t / 5,t%5,by omega,by omega⟩
  rw[cvcs_at _ i j (by rw[List.length_replicate];omega) hj]
  have e1:cat (List.replicate n cv0) i=cv0:=by
   unfold cat;rw[List.getElem?_replicate,if_pos (by omega)]
   rfl
  rw[e1];simp only[madeCells,Array.getElem?_toList]
  match j,hj with
  | 0,_ =>
   simp only[Nat.add_zero] at ht ⊢
   simp[ht,cv0,encC,Value.cells,show i*5%5=0 by omega]
  | 1,_=>simp[ht,cv0,encC,Value.cells,show(i*5+1)%5=1 by omega]
  | 2,_=>simp[ht,cv0,encC,Value.cells,show(i*5+2)%5=2 by omega]
  | 3,_=>simp[ht,cv0,encC,Value.cells,show(i*5+3)%5=3 by omega]
  | 4,_=>simp[ht,cv0,encC,Value.cells,show(i*5+4)%5=4 by omega]
 ·rw[List.getElem?_eq_none (by rw[Array.length_toList,size_madeCells];omega),List.getElem?_eq_none (by rw[cvcs_len,List.length_replicate];omega)]
theorem OwnC.made {w:World}{base g n:Nat}(h:w.ownsRow base 83 5 (.slice (some ⟨g,0,none⟩) n n) n (madeCells (cvv cv0).cells (n*5)).toList):OwnC w base (.slice (some ⟨g,0,none⟩) n n) (List.replicate n cv0):=by
 unfold OwnC
 rw[List.length_replicate,←madeC]
 exact h
theorem OwnC.no_limb {w:World}{base g n:Nat}{L:List Cv}(h:OwnC w base (.slice (some ⟨g,0,none⟩) n n) L)(hn:L.length=n):∀o v,w.cell? ⟨g,o,none⟩=some v→∀k,v≠.int .u32 k:=by
 intro o v hv k e
 subst e
 unfold OwnC at h
 rw[hn] at h
 rcases h.2 with⟨h',_⟩|⟨g',cap,cur,h',hb,hg,hnc,hcm,hcs,htake⟩
 ·cases h'
 ·cases h'
  rw[cell_of_row w g o cur _ (0,0) hg] at hv;have ho:o<n*5:=by
   have:=(Array.getElem?_eq_some_iff.1 hv).1
   omega
  have h2:(cvcs L)[o]?=some (.int .u32 k):=by
   rw[←htake,List.getElem?_take,if_pos ho,Array.getElem?_toList];exact hv
  have h3:(Value.int .u32 k)∈cvcs L:=List.mem_of_getElem? h2
  obtain⟨x,_,hx⟩:=List.mem_flatMap.1 h3
  simp[encC] at hx
end Go.Proofs.YtikehjindobpkaaGreat
