import Derived.Test.YtbabbmdpgpcgjaaGreatDoorHMem
import Derived.RangeFuncNested
import Derived.RangeFuncBound
import Derived.RangeFuncCalls
import Derived.RangeFuncLeaves
import Derived.Shelf.Abstract
import Derived.Shelf.RegionOpen
import Derived.OwnWalkIn
import Derived.TacticsInMore
import Derived.LoopNIn
import Derived.LoopIn
import Derived.OwnWalk
import Derived.Deep.DeepCutAuto
import Derived.Deep.RegionWith

set_option linter.unusedVariables false
set_option linter.unusedSimpArgs false
set_option maxRecDepth 100000
set_option maxHeartbeats 6400000
namespace Go.Proofs.YtbabbmdpgpcgjaaGreatDoor
open Go.RowKit Go.Shelf Num
attribute [local go_sem] Oper.semAt_some
abbrev Item (n:Nat):Type:={ x:Nat × Nat // (0<n→x.1<n)∧x.2<4294967296 }
def zhQ {n:Nat}(x:Item n):Array Value:=#[.int .i64 (x.1.1:Int),.int .u32 (x.1.2:Int)]
def it (xs:List Nat)(hd:Dig xs)(j:Nat):Item xs.length:=⟨(xs.length-1-j,xs[xs.length-1-j]?.getD 0),⟨fun h=>by omega,hd.getD _⟩⟩
def its (xs:List Nat)(hd:Dig xs)(k:Nat):List (Item xs.length):=(List.range k).map (it xs hd)
theorem zfV (xs:List Nat)(hd:Dig xs)(k:Nat):its xs hd (k+1)=its xs hd k++[it xs hd k]:=by simp[its,List.range_succ]
theorem znS (xs:List Nat)(hd:Dig xs)(k:Nat):(its xs hd k).length=k:=by simp[its]
def zca (n₀ Bs:Nat)(W W':World):Prop:=Below n₀ W W'∧W'.heap[Bs]?=W.heap[Bs]?
theorem zca.refl (n₀ Bs:Nat)(W:World):zca n₀ Bs W W:=⟨Below.refl _ _,rfl⟩
theorem zca.trans {n₀ Bs:Nat}{A B C:World}(h:zca n₀ Bs A B)(k:zca n₀ Bs B C):zca n₀ Bs A C:=⟨h.1.trans k.1,k.2.trans h.2⟩
theorem zca.b {n₀ Bs:Nat}{w:World}(hn:n₀≤w.heap.size)(hB:Bs<w.heap.size)(W:World)(l:Nat)(o o':Obj)(hl:w.heap.size≤l)(h:W.heap[l]?=some o)(h1:o.isCells=false)(h2:o.isWalk=false):zca n₀ Bs W (W.putObj l o') :=
 ⟨belowK_b hn W l o o' hl h h1 h2,World.putObj_heap_other (by omega)⟩
theorem zmP (F:Fence)(n:Nat)(h46:F.fn 229)(hro:F.round=none)(hn:1≤n)(l Bs n₀ b off cap:Nat)(xs:List Nat)(hd:Dig xs)(hlen:xs.length≤1000000)(hb:b<n₀)
  (J Jx:List (Item xs.length)→World→Prop)
  (hY:∀pre x W,J pre W→pre.length<xs.length→YieldAt F (n-1) Tryz.prog l (zhQ x) W fun e W' =>
   (e=.returned (.bool true)∧J (pre++[x]) W'∧zca n₀ Bs W W')∨(e=.returned (.bool false)∧Jx (pre++[x]) W'))
  (W:World) (hBs:W.cell? ⟨Bs,0,none⟩=some (.slice (some ⟨b,off,none⟩) xs.length cap)) (hc:∀j,j<xs.length→W.cell? ⟨b,off+j,none⟩=some (.int .u32 (xs[j]?.getD 0:Nat))) (h0:J [] W) :
  CallsIn F n Tryz.prog 229 #[.func (.yield l) #[] #[],.pointer (some ⟨Bs,0,none⟩)] W fun e W'=>(∃v,e=.returned v) ∧
   ((∃ys,ys=its xs hd xs.length∧J ys W')∨(∃pre,(∃k,k≤xs.length∧pre=its xs hd k)∧Jx pre W')):=by
 have HC:=Hh hc;clear hc;refine callsIn_of_wp Tryz.func229 rfl h46 ?_ hro;simp only[Tryz.ntmps229,List.size_toArray,List.length_cons,List.length_nil,Nat.reduceAdd,Nat.reduceSub,Array.replicate_succ,Array.replicate_zero,List.push_toArray,List.append_toArray,List.nil_append,List.cons_append]
 gi_wp2
 gi_loopw [3] (fun i wr=>∃(m:Nat) (t:Int),m≤xs.length∧t=(m:Int)-1∧i=.int .i64 t∧J (its xs hd (xs.length-m)) wr∧zca n₀ Bs W wr)
  (fun i _=>(intOf i+1).toNat)
 case atStart=>exact⟨xs.length,_,Nat.le_refl _,rfl,rfl,by rw[Nat.sub_self];exact h0,zca.refl _ _ _⟩
 case round =>
  obtain⟨m,t,hm,ht,rfl,hJs,hnx⟩:=hrel;by_cases hp:0<m
  ·obtain⟨p,rfl⟩:∃p,m=p+1:=⟨m-1,by omega⟩;obtain rfl:t=(p:Int):=by omega
   have hbs:=(World.cell?_of_block (a:=⟨Bs,0,none⟩) hnx.2).trans hBs;have hx:=(hnx.1.cell (p:=⟨b,off+p,none⟩) hb).trans (HC.out p (by omega));obtain⟨fn,tmps,assign,body,hy,hR⟩:=hY _ (it xs hd (xs.length-(p+1))) wr hJs (by rw[znS];omega);have e1:(it xs hd (xs.length-(p+1))).1.1=p:=by show xs.length-1-(xs.length-(p+1))=p;omega
   have e2:(it xs hd (xs.length-(p+1))).1.2=xs[p]?.getD 0:=by show xs[xs.length-1-(xs.length-(p+1))]?.getD 0=_;rw[show xs.length-1-(xs.length-(p+1))=p from by omega]
   unfold zhQ at hy;rw[e1,e2] at hy;obtain⟨x,hxx⟩:∃x,x=xs[p]?.getD 0:=⟨_,rfl⟩;rw[←hxx] at hx hy;have hpl:(p:Int)<(xs.length:Int):=by omega
   clear e1 e2 hxx ht;have HX:=Hh hnx;have HB:=Hh hBs;clear hnx hBs
   gi_wp2
   refine hR.mono ?_;have hsucc:=zfV xs hd (xs.length-(p+1));rw[show xs.length-(p+1)+1=xs.length-p from by omega] at hsucc;rintro e W3 (⟨rfl,hJ3,hk3⟩|⟨rfl,hJx3⟩)
   ·rw[←hsucc] at hJ3;clear hsucc
    gi_wp2
    go_roundw
    case rel=>exact⟨p,(p:Int)-1,by omega,rfl,rfl,hJ3,HX.out.trans hk3⟩
    case measure=>simp[intOf] <;> omega
   ·rw[←hsucc] at hJx3;clear hsucc
    gi_wp2
    refine bodyPost_ret (results_none rfl _ _ _) rfl ?_;exact⟨⟨_,rfl⟩,.inr ⟨_,⟨xs.length-p,by omega,rfl⟩,hJx3⟩⟩
  ·obtain rfl:m=0:=by omega
   obtain rfl:t = -1:=by omega
   clear ht hm hp hBs
   gi_wp2
   go_end0;exact⟨⟨_,rfl⟩,.inl ⟨_,rfl,by simpa using hJs⟩⟩
theorem zfL (F:Fence)(n:Nat)(h46:F.fn 229)(hro:F.round=none)(l Bs cap:Nat)(A:Option Addr)(W:World)(hBs:W.cell? ⟨Bs,0,none⟩=some (.slice A 0 cap))(J:World→Prop)(h0:J W) :
  CallsIn F n Tryz.prog 229 #[.func (.yield l) #[] #[],.pointer (some ⟨Bs,0,none⟩)] W fun e W'=>(∃v,e=.returned v)∧J W':=by
 refine callsIn_of_wp Tryz.func229 rfl h46 ?_ hro;simp only[Tryz.ntmps229,List.size_toArray,List.length_cons,List.length_nil,Nat.reduceAdd,Nat.reduceSub,Array.replicate_succ,Array.replicate_zero,List.push_toArray,List.append_toArray,List.nil_append,List.cons_append]
 gi_wp2
 gi_loopw [3] (fun i wr=>i=.int .i64 (-1)∧J wr) (fun _ _=>0)
 case atStart=>exact⟨rfl,h0⟩
 case round =>
  obtain⟨rfl,hJs⟩:=hrel
  gi_wp2
  go_end0;exact⟨⟨_,rfl⟩,hJs⟩
theorem zfW (A:Option Addr)(len cap:Nat)(w:World) :
  Calls Tryz.prog 214 #[.slice A len cap] w fun e w'=>e=.returned (.func (.func 229) #[] #[.pointer (some ⟨w.heap.size,0,none⟩)])∧w'=w.alloc (.cells #[.slice A len cap] 67):=by
 go_enter Tryz.func214,Tryz.ntmps214;go_wp2;go_ret;exact⟨rfl,rfl⟩
theorem zia (F:Fence)(n:Nat)(h46:F.fn 229)(hro:F.round=none)(hn:1≤n)(Bs n₀ cap:Nat)(A:Option Addr)(xs:List Nat)(hd:Dig xs)(hlen:xs.length≤1000000)(w0 w:World)(hBs:Bs<w.heap.size)(hn₀:n₀≤w.heap.size)
  (hc:w.cell? ⟨Bs,0,none⟩=some (.slice A xs.length cap)) (hU:Us w0 A cap xs) (h00:w0.heap.size=n₀) (hb0:Below n₀ w0 w) :
  SeqStopsK F n Tryz.prog 229 #[.pointer (some ⟨Bs,0,none⟩)] (zhQ (n:=xs.length)) (zca n₀ Bs) (fun ys=>ys=its xs hd xs.length) (fun pre=>∃k,k≤xs.length∧pre=its xs hd k) xs.length w:=fun l J Jx W hW _ _ hY h0=>by
 have hc':=(hW.cell (p:=⟨Bs,0,none⟩) hBs).trans hc;rcases Nat.eq_zero_or_pos xs.length with hz|hz
 ·rw[hz] at hc';refine(zfL F n h46 hro l Bs cap A W hc' (fun W'=>J [] W') h0).mono fun e W' ⟨he,hj⟩=>⟨he,.inl ⟨_,rfl,?_⟩⟩;rw[hz];exact hj
 ·obtain⟨b,off,rfl,hb,hcs⟩:=hU.at_ hz
  rw[h00] at hb;exact zmP F n h46 hro hn l Bs n₀ b off cap xs hd hlen hb J Jx hY W hc' (fun j hj=>((hb0.trans (hW.mono hn₀)).cell (p:=⟨b,off+j,none⟩) hb).trans (hcs j hj)) h0
theorem zeG {P:Program}{f:FuncId}{fn:Func}{c:Code}{args:Array Value}{w:World}{R:Ending→World→Prop}(hf:P.funcs[f]?=some fn)(hb:fn.body=some c)
  (h:c.wp P (bodyPostM Fence.wide 4 P fn R) { tmps:=args++Array.replicate (fn.ntmps-args.size) undef,defers:=[] } w):Calls P f args w R :=
 (callsIn_wide (n:=4)).1 (callsIn_of_wp_marks hf hb trivial (wpIn_wide.2 h) rfl)
attribute [local go_sem] Oper.semAt_some
theorem zmQ {xs:List Nat}{hd:Dig xs}{k:Nat}(hk:k≤xs.length)(h:∀y∈its xs hd k,y.1.2=0):∀j,xs.length-k≤j→j<xs.length→xs[j]?.getD 0=0:=by
 intro j h1 h2;have hm:it xs hd (xs.length-1-j)∈its xs hd k:=List.mem_map.2 ⟨_,List.mem_range.2 (by omega),rfl⟩;have:=h _ hm;unfold it at this;simp only[show xs.length-1-(xs.length-1-j)=j from by omega] at this;exact this
theorem zka {xs:List Nat}{hd:Dig xs}(h:∀y∈its xs hd xs.length,y.1.2=0):val xs=0:=by
 have:=zlt (xs:=xs) (k:=0) (Nat.zero_le _) (fun j _ hl=>zmQ (Nat.le_refl _) h j (by omega) hl);rw[←this];rfl
theorem zkb {xs:List Nat}{hd:Dig xs}{k:Nat}{pre:List (Item xs.length)}{x:Item xs.length}(hk:k≤xs.length)(he:pre++[x]=its xs hd k)(hp:∀y∈pre,y.1.2=0)(hx:x.1.2≠0) :
  x.1.1<xs.length∧x.1.2=xs[x.1.1]?.getD 0∧zaS (xs.take (x.1.1+1))∧val (xs.take (x.1.1+1))=val xs:=by
 cases k with
 | zero=>simp[its] at he
 | succ k =>
  rw[zfV] at he;obtain⟨e1,e2⟩:=List.append_inj' he rfl;simp only[List.cons.injEq,and_true] at e2;subst e1;subst e2;have hz:=zmQ (hd:=hd) (k:=k) (by omega) hp;unfold it at hx ⊢;simp only at hx ⊢;refine⟨by omega,trivial,zhX (by omega) hx,zlt (by omega) (fun j h1 h2=>hz j (by omega) h2)⟩
def zyA (A:Option Addr)(c B0:Nat)(xs:List Nat)(w:World)(pre:List (Item xs.length))(W:World):Prop :=
 ((∀y∈pre,y.1.2=0)∧W.cell? ⟨B0,0,none⟩=some (.slice A xs.length c)∧W.cell? ⟨B0+1,0,none⟩=some (.slice none 0 0)∧W.frozen? ⟨B0+1,0,none⟩=false)∧Below w.heap.size w W
def zyB (A:Option Addr)(c B0:Nat)(xs:List Nat)(w:World)(cd:Code)(pre:List (Item xs.length))(W:World):Prop :=
 (cd=.ret∧∃p x,pre=p++[x]∧(∀y∈p,y.1.2=0)∧x.1.2≠0∧W.cell? ⟨B0+1,0,none⟩=some (.slice A (x.1.1+1) c))∧Below w.heap.size w W
def RetT (A:Option Addr)(c:Nat)(xs:List Nat)(w:World)(e:Ending)(w':World):Prop :=
 ∃A' c' rs,e=.returned (.slice A' rs.length c')∧(∀W,Us W A c xs→Us W A' c' rs)∧zaS rs∧val rs=val xs∧rs.length≤xs.length∧Below w.heap.size w w'
def zyC (A:Option Addr)(c:Nat)(xs:List Nat)(w:World)(e:Ending)(w':World):Prop :=
 ∃A' c' rs,e=.returned (.slice A' rs.length c')∧(∀W,Us W A c xs→Us W A' c' rs)∧zaS rs∧val rs=val xs∧rs.length≤xs.length∧Below w.heap.size w w'∧(A'=A∨A'=none)
theorem Us.take {w:World}{A:Option Addr}{c:Nat}{xs:List Nat}(h:Us w A c xs){k:Nat}(hk:k≤xs.length):Us w A c (xs.take k):=by
 refine⟨h.1.take k,?_,h.2.2.1,fun hn=>?_⟩
 ·have:=h.2.1;simp only[List.length_map,List.length_take] at this ⊢;omega
 ·simp only[List.length_map,List.length_take] at hn;obtain⟨b,off,e,hb,hc⟩:=h.2.2.2 (by simp;omega);refine⟨b,off,e,hb,fun j u hu=>hc j u ?_⟩;rw[List.map_take,List.getElem?_take] at hu;split at hu
  ·exact hu
  ·cases hu
theorem zpu (A:Option Addr)(c:Nat)(xs:List Nat)(w:World)(h:Us w A c xs)(hl:xs.length≤1000000) :
  Calls Tryz.prog 200 #[.slice A xs.length c] w (zyC A c xs w):=by
 refine(callsIn_wide (n:=4)).1 ?_;have hd:=h.1;obtain⟨hcap1,hcap2⟩:=h.cap;have HH:=Hh h;clear h;refine callsIn_of_wp_marks Tryz.func200 rfl trivial ?_ rfl;simp only[Tryz.ntmps200,List.size_toArray,List.length_cons,List.length_nil,Nat.reduceAdd,Nat.reduceSub,Array.replicate_succ,Array.replicate_zero,List.push_toArray,List.append_toArray,List.nil_append,List.cons_append]
 gi_wp2_with (refine⟨trivial,?_⟩;gi_at_call 214;refine(callsIn_wide.2 (zfW _ _ _ _)).mono ?_;rintro e w' ⟨rfl,rfl⟩)
 have c0:=zaA w (.slice A xs.length c) 67;have c1:=zaA (w.alloc (.cells #[.slice A xs.length c] 67)) (.slice none 0 0) 67;have c2:=zaA ((w.alloc (.cells #[.slice A xs.length c] 67)).alloc (.cells #[.slice none 0 0] 67)) (.slice A xs.length c) 67;simp only[World.size_alloc] at c1 c2;have hB0:Below w.heap.size w (((w.alloc (.cells #[.slice A xs.length c] 67)).alloc (.cells #[.slice none 0 0] 67)).alloc (.cells #[.slice A xs.length c] 67)):=(((Below.refl _ w).alloc (Nat.le_refl _) _).alloc (by simp) _).alloc (by simp;omega) _;refine wpIn_rangeFunc_ownF rfl (by decide) (gf:=229) (lb:=#[.pointer (some ⟨w.heap.size+1+1,0,none⟩)]) rfl trivial (enters_of Tryz.func229 (by kernel_rfl) rfl)
  (zia Fence.wide 3 trivial rfl (by decide) (w.heap.size+1+1) w.heap.size c A xs hd hl w _ (by simp) (by simp;omega) c2.1 HH.out rfl hB0) zca.trans (zca.b (by simp;omega) (by simp)) (Below.refl _ _) (fun _=>rfl)
  (zyA A c w.heap.size xs w) (zyB A c w.heap.size xs w)
  (OwnFrom.and (Own.from (fun s A B row hs hg hr=>⟨hs.1,cell_kept hs.2.1 hg hr,cell_kept hs.2.2.1 hg hr,(frozen_kept hs.2.2.1 hg hr).trans hs.2.2.2⟩) _) (ownFrom_below (Nat.le_refl _) (by simp;omega)))
  (fun cd=>OwnFrom.and (Own.from (fun s A B row hs hg hr=>⟨hs.1,by obtain⟨p,x,e1,e2,e3,e4⟩:=hs.2;exact⟨p,x,e1,e2,e3,cell_kept e4 hg hr⟩⟩) _) (ownFrom_below (Nat.le_refl _) (by simp;omega)))
  ⟨⟨by simp,zaU _ (zaU _ c0.1),zaU _ c1.1,zbN _ c1.1 c1.2⟩,hB0⟩
  (fun x=>{ tmps:=#[.slice A xs.length c,.pointer (some ⟨w.heap.size,0,none⟩),.pointer (some ⟨w.heap.size+1,0,none⟩),.int .i64 (x.1.1:Int),.int .u32 (x.1.2:Int),.slice A xs.length c,.func (.func 229) #[] #[.pointer (some ⟨w.heap.size+1+1,0,none⟩)],.int .i64 (x.1.1:Int),.int .u32 (x.1.2:Int),undef,undef,undef,undef,undef,undef],defers:=[] }) ?assign ?body ?done ?stop
 case assign =>
  intro l x W K hK;unfold zhQ
  gi_wp2
  exact hK
 case body =>
  rintro l pre x W ⟨⟨hz,hca,hcr,hfr⟩,hB⟩ hpre;obtain⟨⟨i,y⟩,hxi⟩:=x;have hi':i<xs.length:=hxi.1 (by omega);have hy:y<4294967296:=hxi.2;dsimp only;have HZ:=Hh hz;have HB:=Hh hB;clear hz hB c0 c1 c2 hB0;by_cases hy0:y=0
  ·subst hy0
   gi_wp2
   refine⟨KeepsOthers.refl _,zca.refl _ _ _,⟨fun z hz=>?_,hca,hcr,hfr⟩,HB.out⟩;rcases List.mem_append.1 hz with hz|hz
   ·exact HZ.out z hz
   ·simp only[List.mem_singleton] at hz;subst hz;rfl
  ·have t1:((y:Int)!=0)=true:=by rw[bne_iff_ne];omega
   have hic:(i:Int)+1≤(c:Int):=by omega
   gi_wp2
   refine⟨KeepsOthers.setCell _ _ _,⟨rfl,pre,_,rfl,HZ.out,hy0,World.cell?_setCell_same' _ _ _ (by rw[hcr];rfl)⟩,HB.out.setCell (p:=⟨w.heap.size+1,0,none⟩) (by simp) _⟩
 case done =>
  rintro D ys W hD rfl ⟨⟨hz,hca,hcr,hfr⟩,hB⟩ hK;have hv:=zka hz;have HZ:=Hh hz;have HB:=Hh hB;have HV:=Hh hv;clear hz hB hv c0 c1 c2 hB0
  gi_wp2
  have hK':=(KeepsOthers.setCell W ⟨w.heap.size+1,0,none⟩ (.slice none 0 0)).same D _ hK rfl;refine⟨by simp,.inl ⟨_,_,rfl,run_takeDeferred hK',?_⟩⟩;have hc5:=cell_kept (World.cell?_setCell_same' W ⟨w.heap.size+1,0,none⟩ (.slice none 0 0) (by rw[hcr];rfl)) (grownBy_putObj' _ D (.deferred none)) (fun r e=>by cases e;exact⟨_,hK',rfl⟩);refine⟨.slice none 0 0,?_,none,0,[],rfl,fun W _=>Us.nil W,zbe,by rw[HV.out];rfl,Nat.zero_le _,(HB.out.setCell (p:=⟨w.heap.size+1,0,none⟩) (by simp) _).trans (belowK_b (w:=w) (Nat.le_refl _) _ D _ _ (by simp at hD;omega) hK' rfl rfl),.inr rfl⟩;simp[results,Tryz.f200,go_sem,hc5]
 case stop =>
  rintro D cd pre W hD ⟨k,hk,hpre⟩ ⟨⟨rfl,p,x,e1,e2,e3,hcr⟩,hB⟩ hK;obtain⟨g1,g2,g3,g4⟩:=zkb hk (e1.symm.trans hpre) e2 e3;have HB:=Hh hB;clear hB e1 e2 hpre c0 c1 c2 hB0
  gi_wp2
  refine⟨by simp,.inl ⟨_,_,rfl,run_takeDeferred hK,?_⟩⟩;have hc5:=cell_kept hcr (grownBy_putObj' _ D (.deferred none)) (fun r e=>by cases e;exact⟨_,hK,rfl⟩);have hbw:=HB.out.trans (belowK_b (w:=w) (Nat.le_refl _) W D _ (.deferred none) (by simp at hD;omega) hK rfl rfl);refine⟨.slice A (x.1.1+1) c,?_,A,c,xs.take (x.1.1+1),?_,fun W hW=>hW.take (by omega),g3,g4,by rw[List.length_take];omega,hbw,.inl rfl⟩
  ·simp[results,Tryz.f200,go_sem,hc5]
  ·rw[List.length_take,Nat.min_eq_left (by omega)]
theorem zfX (A:Option Addr)(c:Nat)(xs:List Nat)(w:World)(h:Us w A c xs)(hl:xs.length≤1000000) :
  Calls Tryz.prog 200 #[.slice A xs.length c] w (RetT A c xs w) :=
 (zpu A c xs w h hl).mono fun _ _ ⟨A',c',rs,e,hU,hc,hv,hl,hb,_⟩=>⟨A',c',rs,e,hU,hc,hv,hl,hb⟩
theorem zsH (A:Option Addr)(c:Nat)(xs:List Nat)(w:World)(h:Us w A c xs)(hl:xs.length≤1000000) :
  Calls Tryz.prog 200 #[.slice A xs.length c] w (RetU (val xs) w) :=
 (zfX A c xs w h hl).mono fun _ _ ⟨A',c',rs,e,hU,hc,hv,_,hb⟩=>⟨A',c',rs,e,hU _ (h.below hb),hc,hv,hb⟩
theorem zlx {A:Option Addr}{c n:Nat}{xs:List Nat}{w:World}(h:Us w A c xs)(hn:xs.length=n)(hl:n≤1000000) :
  Calls Tryz.prog 200 #[.slice A n c] w (RetU (val xs) w):=by
 subst hn;exact zsH A c xs w h hl
end Go.Proofs.YtbabbmdpgpcgjaaGreatDoor

namespace Go.Proofs.YtbabbmdpgpcgjaaGreatDoor
open Go.RowKit Num
theorem zfP {P:Program}(w:World){ops:Array Oper}{rest:List Oper}{o:Oper}{a:Act}{Q:Exit→Act→World→Prop}(hgd:o.guard=none)(s x:Operand)(t:TypeId)
  (ho:o.op=.call { callee:=.builtin .append,args:=#[s,x],argTypes:=#[t,t] })
  (base:Nat) (e:TypeId) (i:TypeInfo) (z:Value) (bytes:Nat) (ht:P.underlying t=some (.slice e)) (hi:P.info? e=some i) (hz:i.zero=some z)
  (hsize:i.size=1) (hby:i.bytes=bytes) (hzs:z.cells.size=1)
  (v:Value) (n:Nat) (xs:List Value) (hs:a.eval s=v) (hown:w.ownsRow base e 1 v n xs)
  (A:Option Addr) (m c:Nat) (news:List Value) (hx:a.eval x=.slice A m c) (hr:Rd w A c news) (hm:m=news.length) (h1:∀u∈news,u.oneCell'=true)
  (h63:n+m≤maxLen) (hbytes:(n+m)*bytes≤140737488355328) (hbase:base≤w.heap.size)
  (h:∀v' w',w'.ownsRow base e 1 v' (n+m) (xs++news)→w.grownBy w' v.ownBlock→(v'.ownBlock=v.ownBlock∨v'.ownBlock=some w.heap.size)→wpList P ops Q rest (a.put o.dst v') w'):wpList P ops Q (o :: rest) a w:=by
 have run:∃v' w',(Builtin.append_ #[t,t] o.type #[v,.slice A m c]).run P w=.ok v' w'∧w'.ownsRow base e 1 v' (n+m) (xs++news)∧w.grownBy w' v.ownBlock∧(v'.ownBlock=v.ownBlock∨v'.ownBlock=some w.heap.size):=by
  subst hm;cases A with
  | none =>
   have hn:news=[]:=by
    cases news with
    | nil=>rfl
    | cons u r=>obtain⟨b,off,he,_⟩:=hr.2.2 (by simp);cases he
   subst hn;refine⟨v,w,?_,by simpa using hown,World.grownBy.refl w _,.inl rfl⟩;rcases hown.2 with⟨rfl,rfl⟩|⟨g,cap,cur,rfl,_,_,hnc,_⟩
   ·simp[Builtin.append_,run_underlying ht,sizeOf,typeInfo,hi,Builtin.lenOf,Builtin.firstCells]
   ·simp[Builtin.append_,run_underlying ht,sizeOf,typeInfo,hi,Builtin.lenOf,Builtin.firstCells,hnc,storeCells]
  | some ad =>
   have hcells:∀j u,news[j]?=some u→w.cell? (ad.add j)=some u:=by
    intro j u hu;obtain⟨b,off,he,_,hc⟩:=hr.2.2 (by rcases List.getElem?_eq_some_iff.1 hu with⟨hlt,_⟩;omega);cases he;rw[show(⟨b,off,none⟩:Addr).add j=⟨b,off+j,none⟩ from by unfold Addr.add;split <;> simp_all];exact hc j u hu
   obtain⟨v',w',hrun,h2,h3,_,h5⟩:=run_append_own_at (P:=P) w base t o.type e i z 1 bytes ht hi hz hsize hby hzs (by decide) v n xs hown ad news.length c news (by omega) hcells h1 h63 hbytes hbase;exact⟨v',w',hrun,h2,h3,h5⟩
 obtain⟨v',w',hrun,h2,h3,h4⟩:=run;refine wpList_plain hgd fun K hK=>?_;unfold Oper.wp execOp;simp only[ho,resolve,invoke,builtin,Sem.run_bind,Sem.run_pure,Result.andThen_ok,List.map_toArray,List.map_cons,List.map_nil,hs,hx,hrun];exact hK _ _ (h v' w' h2 h3 h4)
theorem zvD (xs:List Nat):∀u∈xs.map u32v,u.oneCell'=true:=fun u hu=>by obtain⟨x,_,rfl⟩:=List.mem_map.1 hu;rfl
theorem zsI (xs:List Bool):∀u∈xs.map Value.bool,u.oneCell'=true:=fun u hu=>by obtain⟨x,_,rfl⟩:=List.mem_map.1 hu;rfl
theorem ziS (A:Option Addr)(c:Nat)(xs:List Nat)(w:World)(h:Us w A c xs)(hl:xs.length≤1000000) :
  Calls Tryz.prog 171 #[.slice A xs.length c] w (RetU (val xs) w):=by
 obtain⟨i0,hi,hz0,hz1,hz2⟩:=info_parts Tryz.infoU;have HH:=Hh h;have HI:=Hh (And.intro hi (And.intro hz0 (And.intro hz1 hz2)));clear h hi hz0 hz1 hz2;go_enter Tryz.func171,Tryz.ntmps171;go_wp2_with (first
  | (go_at_call 200;refine(zfX A c xs _ HH.out hl).mono ?_;rintro e w1 ⟨A1,c1,r1,rfl,u1,k1,v1,l1,b1⟩)
  | (at_builtin;refine zfP _ rfl _ _ 67 rfl w.heap.size 136 i0 _ 4 Tryz.underlying67 HI.out.1 HI.out.2.1 HI.out.2.2.1 HI.out.2.2.2 rfl (.slice none 0 0) 0 [] rfl (World.ownsRow_nil _ _ _ _) A1 r1.length c1 (r1.map u32v) rfl (u1 _ (HH.out.below b1)).2 (by simp) (zvD _) (by simp only[maxLen];omega) (by omega) b1.size ?_;intro v2 w2 own2 grow2 at2))
 obtain⟨A2,c2,rfl⟩:=zcm own2;go_ret;simp only[Nat.zero_add] at own2 ⊢;refine⟨A2,c2,r1,rfl,⟨(u1 _ HH.out).1,Rd.own own2⟩,k1,v1,b1.grown grow2 b1.size (fun k hk=>?_)⟩;cases hk
theorem zdc {w w':World}{base:Nat}{e:TypeId}{size:Nat}{v:Value}{n:Nat}{xs:List Value}(h:w.ownsRow base e size v n xs)(hb:Below w.heap.size w w'):w'.ownsRow base e size v n xs:=by
 refine⟨h.1,?_⟩;rcases h.2 with h1|⟨g,cap,cur,h1,h2,h3,h4⟩
 ·exact .inl h1
 ·refine .inr ⟨g,cap,cur,h1,h2,(hb.block g ?_).trans h3,h4⟩;rcases Nat.lt_or_ge g w.heap.size with hlt|hge
  ·exact hlt
  ·rw[Array.getElem?_eq_none hge] at h3;cases h3
def OwnU (w:World)(base g n:Nat)(rs:List Nat):Prop :=
 Dig rs∧rs.length=n∧w.ownsRow base 136 1 (.slice (some ⟨g,0,none⟩) n n) n (rs.map u32v)
theorem OwnU.base {w:World}{base g n:Nat}{rs:List Nat}(h:OwnU w base g n rs):base≤g:=by
 rcases h.2.2.2 with⟨h1,_⟩|⟨g',cap,cur,h1,h2,h3,h4⟩
 ·cases h1
 ·simp only[Value.slice.injEq,Option.some.injEq,Addr.mk.injEq,and_true,true_and] at h1;obtain⟨rfl,rfl⟩:=h1;exact h2
theorem OwnU.lt {w:World}{base g n:Nat}{rs:List Nat}(h:OwnU w base g n rs):g<w.heap.size:=by
 rcases h.2.2.2 with⟨h1,_⟩|⟨g',cap,cur,h1,h2,h3,h4⟩
 ·cases h1
 ·simp only[Value.slice.injEq,Option.some.injEq,Addr.mk.injEq,and_true,true_and] at h1;obtain⟨rfl,rfl⟩:=h1;rcases Nat.lt_or_ge g w.heap.size with hlt|hge
  ·exact hlt
  ·rw[Array.getElem?_eq_none hge] at h3;cases h3
theorem OwnU.cell {w:World}{base g n:Nat}{rs:List Nat}(h:OwnU w base g n rs){k:Nat}(hk:k<n):w.cell? ⟨g,k,none⟩=some (.int .u32 (rs[k]?.getD 0:Nat)):=by
 have hl:k<rs.length:=by have:=h.2.1;omega
 rw[h.2.2.cellAt k (by omega),List.getElem?_map,List.getElem?_eq_getElem hl];rfl
theorem OwnU.free {w:World}{base g n:Nat}{rs:List Nat}(h:OwnU w base g n rs)(k:Nat):w.frozen? ⟨g,k,none⟩=false:=h.2.2.frozenAt k
theorem OwnU.set {w:World}{base g n:Nat}{rs:List Nat}(h:OwnU w base g n rs)(k:Nat){u:Nat}(hu:u<4294967296):OwnU (w.setCell ⟨g,k,none⟩ (.int .u32 (u:Int))) base g n (rs.set k u):=by
 refine⟨h.1.set k hu,by simpa using h.2.1,?_⟩;rw[List.map_set];exact(h.2.2.stored k _).1
theorem OwnU.below {w w':World}{base g n:Nat}{rs:List Nat}(h:OwnU w base g n rs)(hb:Below w.heap.size w w'):OwnU w' base g n rs:=⟨h.1,h.2.1,zdc h.2.2 hb⟩
theorem OwnU.reads {w:World}{base g n:Nat}{rs:List Nat}(h:OwnU w base g n rs):Us w (some ⟨g,0,none⟩) n rs:=⟨h.1,Rd.own h.2.2⟩
theorem zyD (n:Nat):(madeCells (Value.cells (.int .u32 0)) (n*1)).toList=(List.replicate n 0).map u32v:=by
 rw[Nat.mul_one];refine List.ext_getElem (by simp[madeCells]) fun i h1 h2=>?_;simp[madeCells,Value.cells,Nat.mod_one]
theorem OwnU.made {w:World}{base g n:Nat}(h:w.ownsRow base 136 1 (.slice (some ⟨g,0,none⟩) n n) n (madeCells (Value.cells (.int .u32 0)) (n*1)).toList):OwnU w base g n (List.replicate n 0) :=
 ⟨Dig.replicate n,by simp,by rw[←zyD];exact h⟩
theorem zcx {rs:List Nat}{k:Nat}(u:Nat)(hk:k<rs.length):val ((rs.set k u).take (k+1))=val (rs.take k)+4294967296^k*u:=by
 rw[zbB (by simpa using hk),List.take_set_of_le (by omega),List.getElem?_set];simp[hk]
theorem zdd {rs:List Nat}{n:Nat}(h:rs.length=n):rs.take n=rs:=List.take_of_length_le (by omega)
theorem zxr (A:Option Addr)(c:Nat)(xs:List Nat)(i:Int)(w:World)(h:Us w A c xs)(hl:xs.length≤1000000)(h0:0≤i) :
  Calls Tryz.prog 203 #[.slice A xs.length c,.int .i64 i] w fun e w'=>e=.returned (.int .u32 (xs[i.toNat]?.getD 0:Nat))∧w=w':=by
 obtain⟨k,rfl⟩:=Int.eq_ofNat_of_zero_le h0;rw[Int.toNat_natCast];obtain⟨x,hx⟩:∃x,x=xs[k]?.getD 0:=⟨_,rfl⟩;by_cases hlt:k<xs.length
 ·obtain⟨b,off,rfl,hb,hc⟩:=h.at_ (by omega)
  have hck:=hc k hlt;rw[←hx] at hck ⊢;clear hc h hx;go_enter Tryz.func203,Tryz.ntmps203;go_wp2;go_ret;exact⟨rfl,rfl⟩
 ·rw[List.getElem?_eq_none (by omega)] at hx ⊢;clear h hx;go_enter Tryz.func203,Tryz.ntmps203;go_wp2;go_ret;exact⟨rfl,rfl⟩
def zdy (n:Int):Bool:=decide (0≤n∧n≤10000)
theorem zkc (n:Int)(w:World) :
  Calls Tryz.prog 201 #[.int .i64 n] w fun e w'=>e=.returned (.bool (zdy n))∧w=w':=by
 by_cases h0:0≤n
 ·by_cases h1:n≤10000
  ·have e:zdy n=true:=by simp[zdy,h0,h1]
   rw[e];clear e;go_enter Tryz.func201,Tryz.ntmps201;go_wp2;go_ret;exact⟨rfl,rfl⟩
  ·have e:zdy n=false:=by simp[zdy,h1]
   rw[e];clear e;go_enter Tryz.func201,Tryz.ntmps201;go_wp2;go_ret;exact⟨rfl,rfl⟩
 ·have e:zdy n=false:=by simp[zdy,h0]
  rw[e];clear e;go_enter Tryz.func201,Tryz.ntmps201;go_wp2;go_ret;exact⟨rfl,rfl⟩
theorem zvE (A:Option Addr)(c:Nat)(bs:List Bool)(i:Int)(w:World)(h:Bl w A c bs)(hl:bs.length≤100000000) :
  Calls Tryz.prog 118 #[.slice A bs.length c,.int .i64 i] w fun e w'=>e=.returned (.bool (decide (0≤i)&&bs[i.toNat]?.getD false))∧w=w':=by
 by_cases h0:0≤i
 ·obtain⟨k,rfl⟩:=Int.eq_ofNat_of_zero_le h0;rw[Int.toNat_natCast,decide_eq_true h0,Bool.true_and];obtain⟨x,hx⟩:∃x,x=bs[k]?.getD false:=⟨_,rfl⟩;by_cases hlt:k<bs.length
  ·obtain⟨b,off,rfl,hb,hc⟩:=h.at_ (by omega)
   have hck:=hc k hlt;rw[←hx] at hck ⊢;clear hc h hx;go_enter Tryz.func118,Tryz.ntmps118;go_wp2;go_ret;exact⟨rfl,rfl⟩
  ·rw[List.getElem?_eq_none (by omega)] at hx ⊢;clear h hx;go_enter Tryz.func118,Tryz.ntmps118;go_wp2;go_ret;exact⟨rfl,rfl⟩
 ·rw[decide_eq_false h0,Bool.false_and];clear h;go_enter Tryz.func118,Tryz.ntmps118;go_wp2;go_ret;exact⟨rfl,rfl⟩
def zib (xs:List Nat):Bool:=xs.length==0||xs[xs.length-1]?.getD 0 != 0
theorem zpv (A:Option Addr)(c:Nat)(xs:List Nat)(w:World)(h:Us w A c xs)(hl:xs.length≤1000000) :
  Calls Tryz.prog 132 #[.slice A xs.length c] w fun e w'=>e=.returned (.bool (zib xs))∧w=w':=by
 obtain⟨x,hx⟩:∃x,x=xs[xs.length-1]?.getD 0:=⟨_,rfl⟩;unfold zib;by_cases hlt:0<xs.length
 ·obtain⟨b,off,rfl,hb,hc⟩:=h.at_ hlt
  have hck:=hc (xs.length-1) (by omega);have e0:(xs.length==0)=false:=by rw[beq_eq_false_iff_ne];omega
  rw[←hx] at hck ⊢;rw[e0,Bool.false_or];generalize xs.length=n at *;obtain⟨m,rfl⟩:∃m,n=m+1:=⟨n-1,by omega⟩;rw[Nat.add_sub_cancel] at hck;clear hc h hx e0;go_enter Tryz.func132,Tryz.ntmps132;by_cases hx0:x=0
  ·subst hx0;go_wp2;go_ret;exact⟨rfl,rfl⟩
  ·have hb1:((x:Int)==0)=false:=by rw[beq_eq_false_iff_ne];omega
   have hb2:((x:Int)!=0)=true:=by rw[bne_iff_ne];omega
   have e1:(x != 0)=true:=by rw[bne_iff_ne];omega
   rw[e1];clear e1 hx0;go_wp2;go_ret;exact⟨rfl,rfl⟩
 ·have e0:xs.length=0:=by omega
  rw[e0];clear h hx hl hlt e0;go_enter Tryz.func132,Tryz.ntmps132;go_wp2;go_ret;exact⟨rfl,rfl⟩
def zgE (x y c:Nat):Nat:=(x+y+c)%4294967296
def zgF (x y c:Nat):Nat:=(x+y+c) / 4294967296
theorem zpw (x y c:Nat):zgE x y c<4294967296:=Nat.mod_lt _ (by decide)
theorem zpx {x y c:Nat}(hx:x<4294967296)(hy:y<4294967296)(hc:c≤1):zgF x y c≤1:=by unfold zgF;omega
theorem zxs (x y c:Nat):zgE x y c+4294967296*zgF x y c=x+y+c:=by unfold zgE zgF;omega
theorem zpy (x y c:Nat)(w:World)(hx:x<4294967296)(hy:y<4294967296)(hc:c≤1) :
  Calls Tryz.prog 202 #[.int .u32 x,.int .u32 y,.int .u32 c] w fun e w'=>e=.returned (.tuple #[.int .u32 (zgE x y c:Nat),.int .u32 (zgF x y c:Nat)])∧w=w':=by
 go_enter Tryz.func202,Tryz.ntmps202;go_wp2;go_ret2;exact⟨rfl,rfl⟩
def zcn (x y c:Nat):Nat:=(x+8589934592-y-c)%4294967296
def zen (x y c:Nat):Nat:=if x<y+c then 1 else 0
theorem zgG (x y c:Nat):zcn x y c<4294967296:=Nat.mod_lt _ (by decide)
theorem zpz (x y c:Nat):zen x y c≤1:=by unfold zen;split <;> omega
theorem zxt {x y c:Nat}(hx:x<4294967296)(hy:y<4294967296)(hc:c≤1):zcn x y c+y+c=x+4294967296*zen x y c:=by
 unfold zcn zen;split <;> omega
theorem zyE {n:Nat}(h:n<4294967296):n / 2147483648=(n.testBit 31).toNat:=by
 rw[Nat.testBit_eq_decide_div_mod_eq];by_cases hb:n<2147483648
 ·have:n / 2^31%2=0:=by omega
  simp[this];omega
 ·have:n / 2^31%2=1:=by omega
  simp[this];omega
theorem zgH {n:Nat}(h:n<4294967296):n.testBit 31=decide (2147483648≤n):=by
 rw[Nat.testBit_eq_decide_div_mod_eq];by_cases hb:n<2147483648
 ·have:n / 2^31%2=0:=by omega
  rw[this];simp;omega
 ·have:n / 2^31%2=1:=by omega
  rw[this];simp;omega
theorem znT {x y c:Nat}(hx:x<4294967296)(hy:y<4294967296)(hc:c≤1) :
  (((4294967295 ^^^ x) &&& y) ||| ((4294967295 ^^^ (x ^^^ y)) &&& zcn x y c)) / 2147483648=zen x y c:=by
 have p:(4294967296:Nat)=2^32:=by decide
 have hm:(4294967295:Nat)<2^32:=by decide
 have hx':=hx;have hy':=hy;have hd:=zgG x y c;rw[p] at hx' hy';have l1:((4294967295 ^^^ x) &&& y)<2^32:=Nat.and_lt_two_pow _ hy';have l2:((4294967295 ^^^ (x ^^^ y)) &&& zcn x y c)<2^32:=Nat.and_lt_two_pow _ (by rw[←p];exact hd);have l3:=Nat.or_lt_two_pow l1 l2;rw[←p] at l3;rw[zyE l3];simp only[Nat.testBit_or,Nat.testBit_and,Nat.testBit_xor];rw[zgH hx,zgH hy,zgH hd,show Nat.testBit 4294967295 31=true from by decide];unfold zcn zen at *;by_cases hxb:2147483648≤x <;> by_cases hyb:2147483648≤y <;> by_cases hlt:x<y+c <;>
  by_cases hdb:2147483648≤(x+8589934592-y-c)%4294967296 <;> simp[hxb,hyb,hlt,hdb] <;> omega
theorem znU {x y c:Nat}(hx:x<4294967296)(hy:y<4294967296)(hc:c≤1) :
  bits .or .u32 (bits .and .u32 (bits .xor .u32 IntKind.u32.max (x:Int)) (y:Int))
   (bits .and .u32 (bits .xor .u32 IntKind.u32.max (bits .xor .u32 (x:Int) (y:Int))) (((x:Int)-y-c)%4294967296)) / 2147483648=((zen x y c:Nat):Int):=by
 have p:(4294967296:Nat)=2^32:=by decide
 have e:(((x:Int)-y-c)%4294967296)=((zcn x y c:Nat):Int):=by unfold zcn;omega
 have m:IntKind.u32.max=((4294967295:Nat):Int):=rfl;have hx':=hx;have hy':=hy;have hd:=zgG x y c;rw[p] at hx' hy';have x1:(4294967295 ^^^ x)<4294967296:=by rw[p];exact Nat.xor_lt_two_pow (by decide) hx'
 have x2:(x ^^^ y)<4294967296:=by rw[p];exact Nat.xor_lt_two_pow hx' hy'
 have x2':=x2;rw[p] at x2';have x3:(4294967295 ^^^ (x ^^^ y))<4294967296:=by rw[p];exact Nat.xor_lt_two_pow (by decide) x2'
 have l1:((4294967295 ^^^ x) &&& y)<4294967296:=by rw[p];exact Nat.and_lt_two_pow _ hy'
 have l2:((4294967295 ^^^ (x ^^^ y)) &&& zcn x y c)<4294967296:=by rw[p];exact Nat.and_lt_two_pow _ (by rw[←p];exact hd)
 rw[e,m,u32_xor_nat _ _ (by decide) hx,u32_xor_nat _ _ hx hy,u32_xor_nat _ _ (by decide) x2,u32_and_nat _ _ x1 hy,u32_and_nat _ _ x3 hd,u32_or_nat _ _ l1 l2,←znT hx hy hc];omega
theorem zpA (x y c:Nat)(w:World)(hx:x<4294967296)(hy:y<4294967296)(hc:c≤1) :
  Calls Tryz.prog 204 #[.int .u32 x,.int .u32 y,.int .u32 c] w fun e w'=>e=.returned (.tuple #[.int .u32 (zcn x y c:Nat),.int .u32 (zen x y c:Nat)])∧w=w':=by
 have e1:(((x:Int)-y-c)%4294967296)=((zcn x y c:Nat):Int):=by unfold zcn;omega
 have e2:=znU hx hy hc;have E1:=Hh e1;have E2:=Hh e2;clear e1 e2;go_enter Tryz.func204,Tryz.ntmps204;go_wp2;go_ret2;refine⟨?_,rfl⟩;show Ending.returned (.tuple #[.int .u32 _,.int .u32 _])=_;rw[E2.out,E1.out]
def cmpZ (x y:Int):Int:=if x<y then -1 else if x=y then 0 else 1
theorem zfn (x y:Int)(w:World) :
  Calls Tryz.prog 136 #[.int .i64 x,.int .i64 y] w fun e w'=>e=.returned (.int .i64 (cmpZ x y))∧w=w':=by
 unfold cmpZ;rcases Int.lt_trichotomy x y with h|h|h
 ·rw[if_pos h];go_enter Tryz.func136,Tryz.ntmps136;go_wp2;go_ret;exact⟨rfl,rfl⟩
 ·subst h;rw[if_neg (by omega),if_pos rfl];go_enter Tryz.func136,Tryz.ntmps136;go_wp2;go_ret;exact⟨rfl,rfl⟩
 ·rw[if_neg (by omega),if_neg (by omega)];go_enter Tryz.func136,Tryz.ntmps136;go_wp2;go_ret;exact⟨rfl,rfl⟩
theorem zic (x y:Nat)(w:World) :
  Calls Tryz.prog 215 #[.int .u32 x,.int .u32 y] w fun e w'=>e=.returned (.int .i64 (cmpN x y))∧w=w':=by
 unfold cmpN;rcases Nat.lt_trichotomy x y with h|h|h
 ·rw[if_pos h];go_enter Tryz.func215,Tryz.ntmps215;go_wp2;go_ret;exact⟨rfl,rfl⟩
 ·subst h;rw[if_neg (by omega),if_pos rfl];go_enter Tryz.func215,Tryz.ntmps215;go_wp2;go_ret;exact⟨rfl,rfl⟩
 ·rw[if_neg (by omega),if_neg (by omega)];go_enter Tryz.func215,Tryz.ntmps215;go_wp2;go_ret;exact⟨rfl,rfl⟩
theorem zuV {A:Option Addr}{c n:Nat}{xs:List Nat}{w:World}(h:Us w A c xs)(hn:xs.length=n)(hl:n≤1000000)(k:Nat){y:Nat}(hy:y=xs[k]?.getD 0) :
  Calls Tryz.prog 203 #[.slice A n c,.int .i64 (k:Int)] w fun e w'=>e=.returned (.int .u32 (y:Int))∧w=w':=by
 subst hn;have:=zxr A c xs (k:Int) w h hl (by omega)
 rwa [Int.toNat_natCast,←hy] at this
theorem zcb {xs:List Nat}(k:Nat):val (xs.take (k+1))=val (xs.take k)+4294967296^k*xs[k]?.getD 0:=by
 rcases Nat.lt_or_ge k xs.length with h|h
 ·exact zbB h
 ·rw[List.take_of_length_le (by omega),List.take_of_length_le (by omega),List.getElem?_eq_none h];simp
def zgI (n:Nat)(xs ys:List Nat)(w:World)(g k cy:Nat)(rs:List Nat)(wr:World):Prop :=
 cy≤1∧OwnU wr w.heap.size g (n+1) rs∧val (rs.take k)+4294967296^k*cy=val (xs.take k)+val (ys.take k)∧Below w.heap.size w wr
theorem zgI.next {n k cy g:Nat}{xs ys rs:List Nat}{w wr:World}(h:zgI n xs ys w g k cy rs wr)(hn:xs.length=n)(hk:k<n)(hd:Dig xs)(hd2:Dig ys){x y:Nat}(hx:x=xs[k]?.getD 0)(hy:y=ys[k]?.getD 0) :
  zgI n xs ys w g (k+1) (zgF x y cy) (rs.set k (zgE x y cy)) (wr.setCell ⟨g,k,none⟩ (.int .u32 ((zgE x y cy:Nat):Int))):=by
 obtain⟨h1,h2,h3,h4⟩:=h;have hl:=h2.2.1;have hxl:x<4294967296:=by rw[hx];exact hd.getD k
 have hyl:y<4294967296:=by rw[hy];exact hd2.getD k
 refine⟨zpx hxl hyl h1,h2.set k (zpw _ _ _),?_,h4.setCell (p:=⟨g,k,none⟩) h2.base _⟩;have e:=zxs x y cy;rw[zcx _ (by omega),zcb k,zcb k,←hx,←hy,Nat.pow_succ];generalize 4294967296^k=p at *;have e2:p*(zgE x y cy)+p*(4294967296*zgF x y cy)=p*x+p*y+p*cy:=by rw[←Nat.mul_add,e,Nat.mul_add,Nat.mul_add]
 rw[Nat.mul_assoc];omega
theorem zgI.last {n cy g:Nat}{xs ys rs:List Nat}{w wr:World}(h:zgI n xs ys w g n cy rs wr)(hn:xs.length=n)(hm:ys.length≤n) :
  OwnU (wr.setCell ⟨g,n,none⟩ (.int .u32 (cy:Int))) w.heap.size g (n+1) (rs.set n cy)∧val (rs.set n cy)=val xs+val ys∧Below w.heap.size w (wr.setCell ⟨g,n,none⟩ (.int .u32 (cy:Int))):=by
 obtain⟨h1,h2,h3,h4⟩:=h;have h5:=h2.set n (u:=cy) (by omega);refine⟨h5,?_,h4.setCell (p:=⟨g,n,none⟩) h2.base _⟩;have e:=zcx (rs:=rs) (k:=n) cy (by have:=h2.2.1;omega);rw[zdd (n:=n+1) (by simpa using h2.2.1)] at e;rw[e,h3,zdd hn,List.take_of_length_le hm]
def zxu (s:Nat)(w:World)(s0 s1:Value)(wx:World):Prop :=
 w=wx∧∃A c xs B d ys,s0=.slice A xs.length c∧s1=.slice B ys.length d∧Us w A c xs∧Us w B d ys∧ys.length≤xs.length∧xs.length<1000000∧val xs+val ys=s
theorem zvF (A B:Option Addr)(c d:Nat)(xs ys:List Nat)(w:World)(h:Us w A c xs)(k:Us w B d ys)(hx:xs.length<1000000)(hy:ys.length<1000000) :
  Calls Tryz.prog 174 #[.slice A xs.length c,.slice B ys.length d] w (RetU (val xs+val ys) w):=by
 obtain⟨i0,hi,hz0,hz1,hz2⟩:=info_parts Tryz.infoU;have H1:=Hh h;have H2:=Hh k;have HI:=Hh (And.intro hi (And.intro hz0 (And.intro hz1 hz2)));clear h k hi hz0 hz1 hz2;obtain⟨s,hs⟩:∃s,s=val xs+val ys:=⟨_,rfl⟩;rw[←hs];have HS:=Hh hs;clear hs;go_enter Tryz.func174,Tryz.ntmps174;go_upto_if 13 with fail
 go_cut [0,1] (fun s0 s1 wx=>zxu s w s0 s1 wx)
 case first =>
  by_cases hlt:xs.length<ys.length
  ·go_wp2;go_meet;exact⟨rfl,B,d,ys,A,c,xs,rfl,rfl,H2.out,H1.out,by omega,hy,by rw[HS.out];omega⟩
  ·go_wp2;go_meet;exact⟨rfl,A,c,xs,B,d,ys,rfl,rfl,H1.out,H2.out,by omega,hx,HS.out.symm⟩
 case rest =>
  clear H1 H2 HS hx hy A B c d xs ys;obtain⟨rfl,A,c,xs,B,d,ys,rfl,rfl,h,k,hle,hx,hs⟩:=hcut;obtain⟨n,hn⟩:∃n,n=xs.length:=⟨_,rfl⟩;obtain⟨m,hm⟩:∃m,m=ys.length:=⟨_,rfl⟩;rw[←hn,←hm];have hln:n<1000000:=by omega
  have hmn:m≤n:=by omega
  have HN:=Hh hn;have HM:=Hh hm;have H1:=Hh h;have H2:=Hh k;have HS:=Hh hs;clear h k hle hx hs hn hm;go_wp2_with (first
   | (at_make;refine wpList_make_full _ rfl _ _ 67 rfl w.heap.size 136 i0 _ 1 Tryz.underlying67 HI.out.1 HI.out.2.1 HI.out.2.2.1 .i64 .i64 _ _ (n+1) rfl rfl (by omega) (by omega) (by rw[HI.out.2.2.2];omega) (by unfold maxLen;omega) (Nat.le_refl _) ?_;intro w0 hown0 hgrow0))
  have own0:=OwnU.made hown0;have hb0:Below w.heap.size w w0:=(Below.refl _ _).grown hgrow0 (Nat.le_refl _) (fun k hk=>by cases hk);have R0:=Hh (show zgI n xs ys w w.heap.size 0 0 (List.replicate (n+1) 0) w0 from⟨by omega,own0,by simp[val],hb0⟩);clear hown0 hgrow0 own0 hb0;generalize w.heap.size=g at R0 ⊢;go_loopw [6,22] (fun cv i wr=>∃(k cy:Nat) (rs:List Nat),k≤n∧i=.int .i64 k∧cv=.int .u32 cy∧zgI n xs ys w g k cy rs wr) (fun _ i _=>n-(intOf i).toNat)
  case atStart=>exact⟨0,0,_,Nat.zero_le _,rfl,rfl,R0.out⟩
  case round =>
   obtain⟨k,cy,rs,hk,rfl,rfl,R⟩:=hrel;have hcy:=R.1;by_cases hlt:k<n
   ·obtain⟨b,off,rfl,hb,hc⟩:=H1.out.at_ (by rw[←HN.out];omega)
    have ex:=(R.2.2.2.cell (p:=⟨b,off+k,none⟩) hb).trans (hc k (by rw[←HN.out];exact hlt));obtain⟨x,hxx⟩:∃x,x=xs[k]?.getD 0:=⟨_,rfl⟩;obtain⟨y,hyy⟩:∃y,y=ys[k]?.getD 0:=⟨_,rfl⟩;rw[←hxx] at ex;have hxl:x<4294967296:=by rw[hxx];exact H1.out.1.getD k
    have hyl:y<4294967296:=by rw[hyy];exact H2.out.1.getD k
    have ec:=R.2.1.cell (k:=k) (by omega);have fc:=R.2.1.free k;have RR:=Hh (R.next HN.out.symm hlt H1.out.1 H2.out.1 hxx hyy);have H3:=Hh (H2.out.below R.2.2.2);have HY:=Hh hyy;clear hc hxx hyy R;go_wp2_with (first
     | (go_at_call 203;refine(zuV H3.out HM.out.symm (by omega) k HY.out).mono ?_;rintro e w' ⟨rfl,rfl⟩)
     | (go_at_call 202;refine(zpy x y cy _ hxl hyl hcy).mono ?_;rintro e w' ⟨rfl,rfl⟩))
    go_roundw
    case rel=>exact⟨k+1,_,_,by omega,by go_num,rfl,RR.out⟩
    case measure=>simp[intOf] <;> omega
   ·obtain rfl:k=n:=by omega
    have ec:=R.2.1.cell (k:=k) (by omega);have fc:=R.2.1.free k;have F:=Hh (R.last HN.out.symm (by rw[←HM.out];exact hmn));have HSZ:=Hh (show(rs.set k cy).length=k+1 from F.out.1.2.1);clear R hlt hk;go_wp2_with (go_at_call 200;refine(zlx F.out.1.reads HSZ.out (by omega)).mono ?_;rintro e w3 ⟨A3,c3,r3,rfl,u3,k3,v3,b3⟩);go_ret;exact⟨A3,c3,r3,rfl,u3,k3,v3.trans (F.out.2.1.trans HS.out),F.out.2.2.trans (b3.mono F.out.2.2.size)⟩
def zeH (wh k n:Nat)(xs:List Nat)(w:World)(g i h:Nat)(rs:List Nat)(wr:World):Prop :=
 h=rs[wh+i]?.getD 0∧h<2^(k%32)∧OwnU wr w.heap.size g (wh+n+1) rs∧val (rs.take (wh+i))+4294967296^(wh+i)*h=val (xs.take i)*2^k∧Below w.heap.size w wr
theorem zuW {x pt:Nat}(hx:x<4294967296):x*2^pt / 4294967296<2^pt:=by
 rw[Nat.div_lt_iff_lt_mul (by decide),Nat.mul_comm];exact Nat.mul_lt_mul_of_pos_left hx (Nat.two_pow_pos pt)
theorem zuX {x pt:Nat}(hp:pt<32):(x*2^pt%4294967296)%2^pt=0:=by
 have e:(4294967296:Nat)=2^pt*2^(32-pt):=by rw[←Nat.pow_add,show pt+(32-pt)=32 from by omega]
 rw[e,Nat.mod_mul_right_mod,Nat.mul_mod_left]
theorem zpB {x pt h:Nat}(hp:pt<32)(hh:h<2^pt):h+x*2^pt%4294967296<4294967296:=by
 have e:(4294967296:Nat)=2^pt*2^(32-pt):=by rw[←Nat.pow_add,show pt+(32-pt)=32 from by omega]
 have h1:=zuX (x:=x) hp;have h2:x*2^pt%4294967296<4294967296:=Nat.mod_lt _ (by decide);obtain⟨q,hq⟩:=Nat.dvd_of_mod_eq_zero h1;rw[hq] at h2 ⊢;rw[e] at h2 ⊢;have h3:q<2^(32-pt):=Nat.lt_of_mul_lt_mul_left h2;have h4:2^pt*(q+1)≤2^pt*2^(32-pt):=Nat.mul_le_mul_left _ h3;rw[Nat.mul_add] at h4;omega
theorem zxv {x pt h:Nat}(hp:pt<32)(hh:h<2^pt):bits .or .u32 (h:Int) ((x*2^pt%4294967296:Nat):Int)=((h+x*2^pt%4294967296:Nat):Int):=by
 have hs:=zpB (x:=x) hp hh;have e:h ||| x*2^pt%4294967296=h+x*2^pt%4294967296:=by
  rw[Nat.or_comm,nat_join pt _ _ (zuX hp) hh,Nat.add_comm]
 rw[u32_or_nat _ _ (by omega) (Nat.mod_lt _ (by decide)),e]
theorem zsJ {x pt:Nat}(hx:x<4294967296)(hp:pt<32):IntKind.u64.wrap ((x:Int)*2^pt)=((x*2^pt:Nat):Int):=by
 have h1:2^pt≤2^31:=Nat.pow_le_pow_right (by decide) (by omega);have h2:x*2^pt≤4294967295*2^31:=Nat.mul_le_mul (by omega) h1;have e:((x:Int)*2^pt)=((x*2^pt:Nat):Int):=by simp
 rw[e];generalize x*2^pt=z at *;simp only[IntKind.wrap,IntKind.bits,IntKind.signed];simp;omega
theorem zeH.next {wh k n g i h:Nat}{xs rs:List Nat}{w wr:World}(R:zeH wh k n xs w g i h rs wr)(hn:xs.length=n)(hi:i<n)(hd:Dig xs)(hw:wh=k / 32){x:Nat}(hx:x=xs[i]?.getD 0) :
  zeH wh k n xs w g (i+1) (x*2^(k%32) / 4294967296) ((rs.set (wh+i) (h+x*2^(k%32)%4294967296)).set (wh+i+1) (x*2^(k%32) / 4294967296))
   ((wr.setCell ⟨g,wh+i,none⟩ (.int .u32 ((h+x*2^(k%32)%4294967296:Nat):Int))).setCell ⟨g,wh+i+1,none⟩ (.int .u32 ((x*2^(k%32) / 4294967296:Nat):Int))):=by
 obtain⟨h0,h1,h2,h3,h4⟩:=R;have hl:=h2.2.1;have hxl:x<4294967296:=by rw[hx];exact hd.getD i
 have hhi:=zuW (pt:=k%32) hxl;have p31:2^(k%32)≤2^31:=Nat.pow_le_pow_right (by decide) (by omega);refine⟨?_,hhi,(h2.set (wh+i) (zpB (by omega) h1)).set (wh+i+1) (by omega),?_,(h4.setCell (p:=⟨g,wh+i,none⟩) h2.base _).setCell (p:=⟨g,wh+i+1,none⟩) h2.base _⟩
 ·rw[show wh+(i+1)=wh+i+1 from by omega,List.getElem?_set_self (by rw[List.length_set];omega)];rfl
 ·have ep:(4294967296:Nat)^wh*2^(k%32)=2^k:=by
   rw[show(4294967296:Nat)=2^32 from by decide,←Nat.pow_mul,←Nat.pow_add,show 32*wh+k%32=k from by omega]
  rw[show wh+(i+1)=wh+i+1 from by omega,List.take_set_of_le (by omega),zcx _ (by omega),zbB (by omega:i<xs.length),←hx,Nat.add_mul,←h3,Nat.pow_succ,←ep,Nat.pow_add];have ed:=Nat.mod_add_div (x*2^(k%32)) 4294967296;generalize 2^(k%32)=p at *;generalize (4294967296:Nat)^wh=q at *;generalize (4294967296:Nat)^i=r at *;have e2:q*r*(x*p%4294967296)+q*r*(4294967296*(x*p / 4294967296))=q*r*(x*p):=by rw[←Nat.mul_add,ed]
  have e3:r*x*(q*p)=q*r*(x*p):=by
   ac_rfl
  rw[Nat.mul_add,Nat.mul_assoc (q*r) 4294967296,e3];omega
theorem zeH.start {wh k n:Nat}{xs:List Nat}{w w0:World}{g:Nat}(h:OwnU w0 w.heap.size g (wh+n+1) (List.replicate (wh+n+1) 0))(hb:Below w.heap.size w w0):zeH wh k n xs w g 0 0 (List.replicate (wh+n+1) 0) w0 :=
 ⟨by simp[List.getElem?_replicate];split <;> rfl,Nat.two_pow_pos _,h,by rw[List.take_replicate,zmK];simp[val],hb⟩
theorem zeH.last {wh k n g h:Nat}{xs rs:List Nat}{w wr:World}(R:zeH wh k n xs w g n h rs wr)(hn:xs.length=n):val rs=val xs*2^k:=by
 obtain⟨h0,h1,h2,h3,h4⟩:=R;have hl:=h2.2.1;have e:=zbB (xs:=rs) (k:=wh+n) (by omega);rw[zdd (by omega:rs.length=wh+n+1),←h0] at e;rw[e,h3,zdd hn]
theorem zvG (A:Option Addr)(c:Nat)(xs:List Nat)(k:Nat)(w:World)(h:Us w A c xs)(hl:xs.length≤100000)(hk:k≤10000) :
  Calls Tryz.prog 173 #[.slice A xs.length c,.int .i64 (k:Int)] w (RetU (val xs*2^k) w):=by
 obtain⟨i0,hi,hz0,hz1,hz2⟩:=info_parts Tryz.infoU;obtain⟨n,hn⟩:∃n,n=xs.length:=⟨_,rfl⟩;rw[←hn];have hln:n≤100000:=by omega
 have HN:=Hh hn;have HH:=Hh h;have HI:=Hh (And.intro hi (And.intro hz0 (And.intro hz1 hz2)));have hsb:zdy (k:Int)=true:=by simp[zdy];omega
 clear h hi hz0 hz1 hz2 hn hl;obtain⟨wh,hwh⟩:∃wh,wh=k / 32:=⟨_,rfl⟩;obtain⟨pt,hpt⟩:∃pt,pt=k%32:=⟨_,rfl⟩;have hw1:wh≤312:=by omega
 have hp1:pt<32:=by omega
 have ew:(k:Int) / 32=(wh:Int):=by omega
 have ep:(k:Int)%32=(pt:Int):=by omega
 have HW:=Hh (And.intro hwh hpt);clear hwh hpt;go_enter Tryz.func173,Tryz.ntmps173;go_wp2_with (first
  | (go_at_call 201;refine(zkc _ _).mono ?_;rintro e w' ⟨rfl,rfl⟩)
  | (at_make;refine wpList_make_full _ rfl _ _ 67 rfl w.heap.size 136 i0 _ 1 Tryz.underlying67 HI.out.1 HI.out.2.1 HI.out.2.2.1 .i64 .i64 _ _ (wh+n+1) rfl rfl (by omega) (by omega) (by rw[HI.out.2.2.2];omega) (by unfold maxLen;omega) (Nat.le_refl _) ?_;intro w0 hown0 hgrow0))
 have own0:=OwnU.made hown0;have hb0:Below w.heap.size w w0:=(Below.refl _ _).grown hgrow0 (Nat.le_refl _) (fun k hk=>by cases hk);have R0:=Hh (zeH.start (k:=k) (xs:=xs) own0 hb0);clear hown0 hgrow0 own0 hb0 ew ep hsb;generalize w.heap.size=g at R0 ⊢;go_loopw [26] (fun iv wr=>∃(i hh:Nat) (rs:List Nat),i≤n∧iv=.int .i64 i∧zeH wh k n xs w g i hh rs wr) (fun iv _=>n-(intOf iv).toNat)
 case atStart=>exact⟨0,0,_,Nat.zero_le _,rfl,R0.out⟩
 case round =>
  obtain⟨i,hh,rs,hi,rfl,R⟩:=hrel;by_cases hlt:i<n
  ·obtain⟨b,off,rfl,hb,hc⟩:=HH.out.at_ (by rw[←HN.out];omega)
   have ex:=(R.2.2.2.2.cell (p:=⟨b,off+i,none⟩) hb).trans (hc i (by rw[←HN.out];exact hlt));obtain⟨x,hx⟩:∃x,x=xs[i]?.getD 0:=⟨_,rfl⟩;rw[←hx] at ex;have hxl:x<4294967296:=by rw[hx];exact HH.out.1.getD i
   have ec:=R.2.2.1.cell (k:=wh+i) (by omega);rw[←R.1] at ec;have ec2:=R.2.2.1.cell (k:=wh+i+1) (by omega);obtain⟨o,ho⟩:∃o,o=rs[wh+i+1]?.getD 0:=⟨_,rfl⟩;rw[←ho] at ec2;clear ho;have fc:=R.2.2.1.free (wh+i);have fc2:=R.2.2.1.free (wh+i+1);have hhp:=R.2.1;have RR:=Hh (R.next HN.out.symm hlt HH.out.1 HW.out.1 hx);have E1:=Hh (zsJ (pt:=pt) hxl hp1);have E2:=Hh (zxv (x:=x) hp1 (h:=hh) (by rw[HW.out.2];exact hhp));have E3:=Hh (zuW (pt:=pt) hxl);clear hc hx R hhp;go_wp2;go_roundw
   case rel =>
    refine⟨i+1,x*2^pt / 4294967296,(rs.set (wh+i) (hh+x*2^pt%4294967296)).set (wh+i+1) (x*2^pt / 4294967296),by omega,by go_num,?_⟩;have p31:2^pt≤2^31:=Nat.pow_le_pow_right (by decide) (by omega);have e3:=E3.out;rw[E1.out,show((x*2^pt:Nat):Int)%4294967296=((x*2^pt%4294967296:Nat):Int) from by simp,E2.out,show((x*2^pt:Nat):Int) / 4294967296%4294967296=((x*2^pt / 4294967296:Nat):Int) from by
     generalize x*2^pt=z at *;omega]
    rw[HW.out.2];exact RR.out
   case measure=>simp[intOf] <;> omega
  ·obtain rfl:i=n:=by omega
   have F:=Hh (R.last HN.out.symm);have HSZ:=Hh R.2.2.1.2.1;have RD:=Hh R.2.2.1.reads;have HB:=Hh R.2.2.2.2;clear R hlt hi;go_wp2_with (go_at_call 200;refine(zlx RD.out HSZ.out (by omega)).mono ?_;rintro e w3 ⟨A3,c3,r3,rfl,q3,k3,v3,b3⟩);go_ret;exact⟨A3,c3,r3,rfl,q3,k3,v3.trans F.out,HB.out.trans (b3.mono HB.out.size)⟩
theorem zxw (A:Option Addr)(c n:Nat)(k:Int)(w:World)(hk:k<0∨10000<k) :
  Calls Tryz.prog 173 #[.slice A n c,.int .i64 k] w (RetU 0 w):=by
 have hsb:zdy k=false:=by simp[zdy];omega
 go_enter Tryz.func173,Tryz.ntmps173;go_wp2_with (go_at_call 201;refine(zkc _ _).mono ?_;rintro e w' ⟨rfl,rfl⟩);go_ret;exact⟨none,0,[],rfl,Us.nil _,zbe,rfl,Below.refl _ _⟩
theorem zbf:∀{xs:List Nat} (_:Dig xs) (k:Nat),(val xs).testBit k=(xs[k / 32]?.getD 0).testBit (k%32)
 | [],_,k=>by simp[val]
 | x :: r,hd,k=>by
  have e:val (x :: r)=2^32*val r+x:=by simp only[val];omega
  rw[e,Nat.testBit_two_pow_mul_add _ hd.head];rcases Nat.lt_or_ge k 32 with h|h
  ·rw[if_pos h,Nat.div_eq_of_lt h,Nat.mod_eq_of_lt h];rfl
  ·rw[if_neg (by omega),zbf hd.tail];obtain⟨j,rfl⟩:∃j,k=j+32:=⟨k-32,by omega⟩;rw[Nat.add_sub_cancel,show(j+32) / 32=j / 32+1 from by omega,Nat.add_mod_right,List.getElem?_cons_succ]
end Go.Proofs.YtbabbmdpgpcgjaaGreatDoor

namespace Go.Proofs.YtbabbmdpgpcgjaaGreatDoor
open Go.RowKit Go.Shelf Num
attribute [local go_sem] Oper.semAt_some
def cmpI (B0:Nat)(xs ys:List Nat)(w:World)(pre:List (Item xs.length))(W:World):Prop :=
 ((∀y∈pre,y.1.2=ys[y.1.1]?.getD 0))∧Below w.heap.size w W
def cmpX (B1 B0:Nat)(xs ys:List Nat)(w:World)(cd:Code)(pre:List (Item xs.length))(W:World):Prop :=
 (cd=.ret∧∃p x,pre=p++[x]∧(∀y∈p,y.1.2=ys[y.1.1]?.getD 0)∧x.1.2≠ys[x.1.1]?.getD 0∧W.cell? ⟨B1,0,none⟩=some (.int .i64 (cmpN x.1.2 (ys[x.1.1]?.getD 0))))∧Below B0 w W
theorem zmR {xs ys:List Nat}{hd:Dig xs}(h:∀y∈its xs hd xs.length,y.1.2=ys[y.1.1]?.getD 0):∀j,j<xs.length→xs[j]?.getD 0=ys[j]?.getD 0:=by
 intro j hj;have hm:it xs hd (xs.length-1-j)∈its xs hd xs.length:=List.mem_map.2 ⟨_,List.mem_range.2 (by omega),rfl⟩;have:=h _ hm;unfold it at this;simp only[show xs.length-1-(xs.length-1-j)=j from by omega] at this;exact this
theorem zmS {xs ys:List Nat}{hd:Dig xs}{k:Nat}{pre:List (Item xs.length)}{x:Item xs.length}(hk:k≤xs.length)(he:pre++[x]=its xs hd k)(hp:∀y∈pre,y.1.2=ys[y.1.1]?.getD 0) :
  x.1.1<xs.length∧x.1.2=xs[x.1.1]?.getD 0∧∀j,x.1.1<j→j<xs.length→xs[j]?.getD 0=ys[j]?.getD 0:=by
 cases k with
 | zero=>simp[its] at he
 | succ k =>
  rw[zfV] at he;obtain⟨e1,e2⟩:=List.append_inj' he rfl;simp only[List.cons.injEq,and_true] at e2;subst e1;subst e2;unfold it;simp only;refine⟨by omega,trivial,fun j h1 h2=>?_⟩;have hm:it xs hd (xs.length-1-j)∈its xs hd k:=List.mem_map.2 ⟨_,List.mem_range.2 (by omega),rfl⟩;have:=hp _ hm;unfold it at this;simp only[show xs.length-1-(xs.length-1-j)=j from by omega] at this;exact this
def zuY (B0 n m:Nat)(w:World)(s0:Value)(wx:World):Prop :=
 ∃A c ra B d rb,s0=.slice A ra.length c∧wx.cell? ⟨B0,0,none⟩=some (.slice B rb.length d)∧wx.cell? ⟨B0+1,0,none⟩=some (.int .i64 0)∧wx.frozen? ⟨B0+1,0,none⟩=false ∧
  Us wx A c ra∧Us wx B d rb∧zaS ra∧zaS rb∧val ra=n∧val rb=m∧ra.length≤1000000∧rb.length≤1000000∧Below B0 w wx
def zcO (Q:Exit→Act→World→Prop):Exit→Act→World→Prop
 | .normal,a,w=>Q .normal a w
 | _,_,_=>False
theorem zcc {P:Program}{c:Code}{a:Act}{w:World}{Q:Exit→Act→World→Prop}(h:c.wp P (zcO Q) a w):c.wp P Q a w :=
 wp_mono h fun e _ _ hq=>by cases e <;> first|exact hq|exact False.elim hq
structure ziT (w W0:World)(v:Value)(W:World):Prop where
 size:W0.heap.size=w.heap.size+2
 cell:W.cell? ⟨w.heap.size,0,none⟩=some v
 free:W.frozen? ⟨w.heap.size,0,none⟩=false
 cellR:W.cell? ⟨w.heap.size+1,0,none⟩=some (.int .i64 0)
 freeR:W.frozen? ⟨w.heap.size+1,0,none⟩=false
 b:Below W0.heap.size W0 W
 base:Below w.heap.size w W0
theorem ziT.next {w W0 W W1:World}{v:Value}(h:ziT w W0 v W)(hb:Below W.heap.size W W1):ziT w W0 v W1 :=
 have l0:=zag h.cell;have l1:=zag h.cellR
 ⟨h.size,(hb.cell (p:=⟨w.heap.size,0,none⟩) l0).trans h.cell,(hb.frozen (p:=⟨w.heap.size,0,none⟩) l0).trans h.free,(hb.cell (p:=⟨w.heap.size+1,0,none⟩) l1).trans h.cellR,(hb.frozen (p:=⟨w.heap.size+1,0,none⟩) l1).trans h.freeR,
  h.b.trans (hb.mono h.b.size),h.base⟩
theorem zvH {w W0 w2:World}{v:Value}{A B A1 A2:Option Addr}{c d c1 c2:Nat}{xs ys r1 r2:List Nat}(h:Us w A c xs)(k:Us w B d ys)(st:ziT w W0 v w2)
  (h1:(∀W,Us W A c xs→Us W A1 c1 r1)∧zaS r1∧val r1=val xs∧r1.length≤xs.length) (h2:(∀W,Us W B d ys→Us W A2 c2 r2)∧zaS r2∧val r2=val ys∧r2.length≤ys.length)
  (hx:xs.length≤1000000) (hy:ys.length≤1000000) :
  zuY w.heap.size (val xs) (val ys) w (.slice A1 r1.length c1) (w2.setCell ⟨w.heap.size,0,none⟩ (.slice A2 r2.length c2)):=by
 have hb:Below w.heap.size w (w2.setCell ⟨w.heap.size,0,none⟩ (.slice A2 r2.length c2)):=(st.base.trans (st.b.mono st.base.size)).setCell (p:=⟨w.heap.size,0,none⟩) (Nat.le_refl _) _;refine⟨A1,c1,r1,A2,c2,r2,rfl,World.cell?_setCell_same' _ _ _ (by rw[st.cell];rfl),?_,?_,h1.1 _ (h.below hb),h2.1 _ (k.below hb),h1.2.1,h2.2.1,h1.2.2.1,h2.2.2.1,by omega,by omega,hb⟩
 ·rw[World.cell?_setCell_other _ _ _ _ (by simp)];exact st.cellR
 ·rw[World.frozen?_setCell];exact st.freeR
theorem zly (A B:Option Addr)(c d:Nat)(xs ys:List Nat)(w:World)(h:Us w A c xs)(k:Us w B d ys)(hx:xs.length≤1000000)(hy:ys.length≤1000000) :
    Calls Tryz.prog 182 #[.slice A xs.length c,.slice B ys.length d] w fun e w'=>e=.returned (.int .i64 (cmpN (val xs) (val ys)))∧Below w.heap.size w w':=by
  have H1:=Hh h;have H2:=Hh k;clear h k;refine zeG Tryz.func182 rfl ?_;simp only[Tryz.ntmps182,List.size_toArray,List.length_cons,List.length_nil,Nat.reduceAdd,Nat.reduceSub,Array.replicate_succ,Array.replicate_zero,List.push_toArray,List.append_toArray,List.nil_append,List.cons_append];go_upto_region 1 with fail
  go_cut [0] from 7 to 10 (fun s0 wx=>zuY w.heap.size (val xs) (val ys) w s0 wx)
  case first =>
    have c0:=zaA w (.slice B ys.length d) 67;have c1:=zaA (w.alloc (.cells #[.slice B ys.length d] 67)) (.int .i64 0) 3;simp only[World.size_alloc] at c1;obtain⟨W0,hW0⟩:∃W0,(w.alloc (.cells #[.slice B ys.length d] 67)).alloc (.cells #[.int .i64 0] 3)=W0:=⟨_,rfl⟩;have st:ziT w W0 (.slice B ys.length d) W0.drew:=by
      rw[←hW0];refine⟨by simp,zaU _ c0.1,zbN _ c0.1 c0.2,c1.1,c1.2,?_,(((Below.refl _ w).alloc (Nat.le_refl _) _).alloc (by simp) _)⟩;exact zac (Below.refl _ _) 1
    have uA:=H1.out.below st.base;have uB:=H2.out.below st.base;have cB:=st.cell;have fB:=st.free;rw[hW0];clear hW0 c0 c1;have UA:=Hh uA;have UB:=Hh uB;clear uA uB;refine zcc ?_;go_region_with (first
      | (go_at_call_of 200 (Value.slice A xs.length c);refine(zfX A c xs _ (UA.out.below (ziT.b (by assumption))) hx).mono ?_;rintro e w1 ⟨A1,c1,r1,rfl,u1,k1,v1,l1,b1⟩;have st1:=ziT.next (by assumption) b1;have cB1:=st1.cell;have fB1:=st1.free;have U1:=Hh (And.intro u1 (And.intro k1 (And.intro v1 l1)));clear u1 k1 v1 l1)
      | (go_at_call_of 200 (Value.slice B ys.length d);refine(zfX B d ys _ (UB.out.below (ziT.b (by assumption))) hy).mono ?_;rintro e w2 ⟨A2,c2,r2,rfl,u2,k2,v2,l2,b2⟩;have st2:=ziT.next (by assumption) b2;have cB2:=st2.cell;have fB2:=st2.free;have U2:=Hh (And.intro u2 (And.intro k2 (And.intro v2 l2)));clear u2 k2 v2 l2))
    all_goals
      unfold zcO;go_wp2_with fail;go_meet;exact zvH H1.out H2.out st2 U1.out U2.out hx hy
  case rest =>
    obtain⟨A1,cc1,ra,B1,d1,rb,rfl,hcB,hcR,hfR,uA,uB,kA,kB,vA,vB,lA,lB,hbw⟩:=hcut;have UA:=Hh uA;have UB:=Hh uB;have hd:=uA.1;have HV:=Hh (And.intro vA vB);have HBW:=Hh hbw;have hsz:=zag hcR;dsimp only at hsz;clear uA uB vA vB H1 H2 hx hy hbw;by_cases hl:ra.length=rb.length
    · have t1:((ra.length:Int)!=(rb.length:Int))=false:=by rw[bne_eq_false_iff_eq];omega
      have HL:=Hh hl;clear hl;go_wp2_with (go_at_call 214;refine(zfW _ _ _ _).mono ?_;rintro e w' ⟨rfl,rfl⟩);have c1:=zaA wc (.slice A1 ra.length cc1) 67;have hB0:Below wc.heap.size wc (wc.alloc (.cells #[.slice A1 ra.length cc1] 67)):=(Below.refl _ wc).alloc (Nat.le_refl _) _;have hle:=HBW.out.size;refine wpIn_wide.1 (wpIn_rangeFunc_ownF (n:=4) rfl (by decide) (gf:=229) (lb:=#[.pointer (some ⟨wc.heap.size,0,none⟩)]) rfl trivial (enters_of Tryz.func229 (by kernel_rfl) rfl)
        (zia Fence.wide 3 trivial rfl (by decide) wc.heap.size wc.heap.size cc1 A1 ra hd lA wc _ (by simp) (by simp) c1.1 UA.out rfl hB0) zca.trans (zca.b (by simp) (by simp)) (Below.refl _ _) (fun _=>rfl)
        (cmpI w.heap.size ra rb wc) (cmpX (w.heap.size+1) w.heap.size ra rb w)
        (OwnFrom.and (ownFrom_pure _ _) (ownFrom_below (Nat.le_refl _) (by simp)))
        (fun cd=>OwnFrom.and (Own.from (fun s A B row hs hg hr=>⟨hs.1,by obtain⟨p,x,e1,e2,e3,e4⟩:=hs.2;exact⟨p,x,e1,e2,e3,cell_kept e4 hg hr⟩⟩) _) (ownFrom_below (Nat.le_refl _) (by simp;omega)))
        ⟨by simp,hB0⟩
        (fun x=>{ tmps:=#[.slice A1 ra.length cc1,.slice B ys.length d,undef,.pointer (some ⟨w.heap.size,0,none⟩),.pointer (some ⟨w.heap.size+1,0,none⟩),.int .i64 (x.1.1:Int),.int .u32 (x.1.2:Int),u7,u8,u9,u10,.slice A1 ra.length cc1,.int .i64 (ra.length:Int),.slice B1 rb.length d1,.int .i64 (rb.length:Int),.bool false,undef,undef,undef,undef,undef,.slice A1 ra.length cc1,
          .func (.func 229) #[] #[.pointer (some ⟨wc.heap.size,0,none⟩)],.int .i64 (x.1.1:Int),.int .u32 (x.1.2:Int),undef,undef,undef,undef,undef,undef,undef,undef,undef,undef,undef,undef],defers:=[] }) ?assign ?body ?done ?stop)
      case assign =>
        intro l x W K hK;unfold zhQ
        gi_wp2
        exact hK
      case body =>
        rintro l pre x W ⟨hz,hB⟩ hpre;obtain⟨⟨i,y⟩,hxi⟩:=x;have hi':i<ra.length:=hxi.1 (by omega);have hy:y<4294967296:=hxi.2;dsimp only;have eB:=(hB.cell (p:=⟨w.heap.size,0,none⟩) (by show w.heap.size<_;omega)).trans hcB;have eR:=(hB.cell (p:=⟨w.heap.size+1,0,none⟩) hsz).trans hcR;have gR:=(hB.frozen (p:=⟨w.heap.size+1,0,none⟩) hsz).trans hfR;have hi2:i<rb.length:=by rw[←HL.out];exact hi'
        obtain⟨b2,off2,hA2,hb2,hc2⟩:=UB.out.at_ (show 0<rb.length by omega)
        have e2:=(hB.cell (p:=⟨b2,off2+i,none⟩) hb2).trans (hc2 i hi2);rw[hA2] at eB;have HZ:=Hh hz;have HB:=Hh hB;obtain⟨z,hzz⟩:∃z,z=rb[i]?.getD 0:=⟨_,rfl⟩;rw[←hzz] at e2;have HZZ:=Hh hzz;clear hz hB c1 hB0 hcB hcR hfR hc2 hA2 hzz t1;by_cases hy0:y=z
        · subst hy0
          have t2:((y:Int)!=(y:Int))=false:=by simp
          gi_wp2
          refine⟨KeepsOthers.refl _,zca.refl _ _ _,fun q hq=>?_,HB.out⟩;rcases List.mem_append.1 hq with hq|hq
          · exact HZ.out q hq
          · simp only[List.mem_singleton] at hq;subst hq;exact HZZ.out
        · have t2:((y:Int)!=(z:Int))=true:=by rw[bne_iff_ne];omega
          gi_wp2_with (refine⟨trivial,?_⟩;gi_at_call 215;refine(CallsIn.inRound l (callsIn_wide.2 (zic y z _))).mono ?_;rintro e w' ⟨rfl,rfl⟩)
          refine⟨KeepsOthers.setCell _ _ _,⟨rfl,pre,_,rfl,HZ.out,?_,?_⟩,(HBW.out.trans (HB.out.mono hle)).setCell (p:=⟨w.heap.size+1,0,none⟩) (by simp) _⟩
          · show y≠rb[i]?.getD 0
            rw[←HZZ.out];exact hy0
          · show _=some (Value.int .i64 (cmpN y (rb[i]?.getD 0)))
            rw[←HZZ.out];exact World.cell?_setCell_same' _ _ _ (by rw[eR];rfl)
      case done =>
        rintro D zs W hD rfl ⟨hz,hB⟩ hK;have hv:=zmM HL.out (zmR hz);have eR:=(hB.cell (p:=⟨w.heap.size+1,0,none⟩) hsz).trans hcR;have gR:=(hB.frozen (p:=⟨w.heap.size+1,0,none⟩) hsz).trans hfR;have HB:=Hh hB;have HV2:=Hh hv;clear hz hB hv c1 hB0 hcB hcR hfR t1;go_wp2;have hK':=(KeepsOthers.setCell W ⟨w.heap.size+1,0,none⟩ (.int .i64 0)).same D _ hK rfl;refine⟨by simp,.inl ⟨_,_,rfl,run_takeDeferred hK',?_⟩⟩;have hc5:=cell_kept (World.cell?_setCell_same' W ⟨w.heap.size+1,0,none⟩ (.int .i64 0) (by rw[eR];rfl)) (grownBy_putObj' _ D (.deferred none)) (fun r e=>by cases e;exact⟨_,hK',rfl⟩);refine⟨.int .i64 0,?_,?_,((HBW.out.trans (HB.out.mono hle)).setCell (p:=⟨w.heap.size+1,0,none⟩) (by simp) _).trans (belowK_b (w:=w) (Nat.le_refl _) _ D _ _ (by simp at hD;omega) hK' rfl rfl)⟩
        · simp[results,Tryz.f182,go_sem,hc5]
        · rw[←HV.out.1,←HV.out.2,HV2.out]
          simp[cmpN]
      case stop =>
        rintro D cd pre W hD ⟨k,hk,hpre⟩ ⟨⟨rfl,p,x,e1,e2,e3,hcr⟩,hB⟩ hK;obtain⟨g1,g2,g3⟩:=zmS hk (e1.symm.trans hpre) e2;have g4:=zuU hd UB.out.1 HL.out g1 g3 (by rw[←g2];exact e3);rw[←g2] at g4;have G4:=Hh g4;have HB:=Hh hB;clear hB e1 e2 hpre c1 hB0 g4 g2 g3 hcB hcR hfR t1
        gi_wp2
        refine⟨by simp,.inl ⟨_,_,rfl,run_takeDeferred hK,?_⟩⟩;have hc5:=cell_kept hcr (grownBy_putObj' _ D (.deferred none)) (fun r e=>by cases e;exact⟨_,hK,rfl⟩);have hbw:=HB.out.trans (belowK_b (w:=w) (Nat.le_refl _) W D _ (.deferred none) (by simp at hD;omega) hK rfl rfl);refine⟨.int .i64 (cmpN x.1.2 (rb[x.1.1]?.getD 0)),?_,?_,hbw⟩
        · simp[results,Tryz.f182,go_sem,hc5]
        · rw[←HV.out.1,←HV.out.2,G4.out]
    · have t1:((ra.length:Int)!=(rb.length:Int))=true:=by rw[bne_iff_ne];omega
      go_wp2_with (go_at_call 136;refine(zfn _ _ _).mono ?_;rintro e w' ⟨rfl,rfl⟩);have hc5:=World.cell?_setCell_same' wc ⟨w.heap.size+1,0,none⟩ (.int .i64 (cmpZ (ra.length:Int) (rb.length:Int))) (by rw[hcR];rfl);refine⟨.int .i64 (cmpZ (ra.length:Int) (rb.length:Int)),?_,?_,HBW.out.setCell (p:=⟨w.heap.size+1,0,none⟩) (by simp) _⟩
      · simp[results,Tryz.f182,go_sem,hc5]
      · rw[←HV.out.1,←HV.out.2]
        congr 2;unfold cmpN cmpZ;rcases Nat.lt_or_ge ra.length rb.length with hlt|hge
        · rw[if_pos (zeD hd kB hlt),if_pos (by omega)]
        · have:=zeD UB.out.1 kA (show rb.length<ra.length by omega)
          rw[if_neg (by omega),if_neg (by omega),if_neg (by omega),if_neg (by omega)]
end Go.Proofs.YtbabbmdpgpcgjaaGreatDoor
