import Derived.Test.YtbabbmdpgpcgjaaGreatDoorHNcRV
import Derived.Test.YtbabbmdpgpcgjaaGreatDoorLaid

set_option linter.unusedVariables false
set_option linter.unusedSimpArgs false
set_option maxRecDepth 100000
set_option maxHeartbeats 6400000
namespace Go.Proofs.YtbabbmdpgpcgjaaGreatDoor
open Go.RowKit Nds
theorem zaa {w:World}{g:Nat}{u:Value}{t:TypeId}(h:w.heap[g]?=some (.cells #[u] t)):w.cell? ⟨g,0,none⟩=some u:=by
 rw[cell_of_row w g _ _ _ _ h];rfl
theorem zam {w:World}{g:Nat}{u:Value}{t:TypeId}(h:w.heap[g]?=some (.cells #[u] t)):w.frozen? ⟨g,0,none⟩=false:=frozen_of_row w g 0 _ _ h
end Go.Proofs.YtbabbmdpgpcgjaaGreatDoor

namespace Go.Proofs.YtbabbmdpgpcgjaaGreatDoor.Nds
open Num
def prtN (a b:Nat):Nat:=blen (a ^^^ b)
theorem zdi (n k:Nat):blen n≤k↔n<2^k:=by
 constructor
 ·intro h;exact Nat.lt_of_lt_of_le (zgz n) (Nat.pow_le_pow_right (by decide) h)
 ·intro h;by_cases h0:n=0
  ·subst h0;show blen 0≤k;unfold blen;simp
  ·have h1:=zgA h0;rcases Nat.lt_or_ge k (blen n) with h2|h2
   ·have:=Nat.pow_le_pow_right (n:=2) (by decide) (show k≤blen n-1 by omega);omega
   ·exact h2
theorem zji {a b:Nat}(h:a ^^^ b=0):a=b:=by
 refine Nat.eq_of_testBit_eq fun i=>?_;have:=congrArg (fun n=>n.testBit i) h;simp only[Nat.testBit_xor,Nat.zero_testBit] at this;cases h1:a.testBit i <;> cases h2:b.testBit i <;> simp_all
theorem zlT (a b k:Nat):prtN a b≤k↔a / 2^k=b / 2^k:=by
 unfold prtN;rw[zdi];have e1:(a ^^^ b)<2^k↔(a ^^^ b) / 2^k=0:=by
  rw[Nat.div_eq_zero_iff];have:=Nat.two_pow_pos k;constructor
  ·intro h;exact .inr h
  ·rintro(h|h)
   ·omega
   ·exact h
 rw[e1,←Nat.shiftRight_eq_div_pow,Nat.shiftRight_xor_distrib,Nat.shiftRight_eq_div_pow,Nat.shiftRight_eq_div_pow];constructor
 ·exact zji
 ·intro h;rw[h,Nat.xor_self]
theorem zaB (a b:Nat):prtN a b=0↔a=b:=by
 have:=zlT a b 0;simp only[Nat.le_zero,Nat.pow_zero,Nat.div_one] at this;exact this
theorem zdD {a b:Nat}(h:a≠b):prtN a b=prtN (a / 2) (b / 2)+1:=by
 have e:∀k,prtN a b≤k+1↔prtN (a / 2) (b / 2)≤k:=fun k=>by
  rw[zlT,zlT,Nat.div_div_eq_div_mul,Nat.div_div_eq_div_mul,Nat.pow_succ,Nat.mul_comm (2^k) 2]
 have h0:prtN a b≠0:=fun e=>h ((zaB a b).1 e);have h1:=(e (prtN a b-1)).1 (by omega);have h2:=(e (prtN (a / 2) (b / 2))).2 (Nat.le_refl _);omega
def zq (x y:Nat):Nat:=if h:x=0∧y=0 then 0 else 4*zq (x / 2) (y / 2)+x%2+2*(y%2)
 termination_by x+y
 decreasing_by omega
theorem zev (x y:Nat):zq x y=4*zq (x / 2) (y / 2)+x%2+2*(y%2):=by
 by_cases h:x=0∧y=0
 ·obtain⟨rfl,rfl⟩:=h;have e:zq 0 0=0:=by rw[zq];simp
  rw[show 0 / 2=0 from rfl,e]
 ·conv=>lhs;rw[zq]
  rw[dif_neg h]
theorem zvl:∀(n x y u v:Nat),x+y+u+v≤n→zq x y=zq u v→x=u∧y=v
 | 0,x,y,u,v,hn,_=>by omega
 | n+1,x,y,u,v,hn,h=>by
  rw[zev x y,zev u v] at h;by_cases h0:x+y+u+v=0
  ·omega
  ·have:=zvl n (x / 2) (y / 2) (u / 2) (v / 2) (by omega) (by omega);omega
theorem zyL {x y u v:Nat}(h:zq x y=zq u v):x=u∧y=v:=zvl _ x y u v (Nat.le_refl _) h
def zim (ax ay bx bY:Nat):Prop:=if prtN ay bY<prtN ax bx then ax<bx else ay<bY
theorem znk:∀(n ax ay bx bY:Nat),ax+ay+bx+bY≤n→(zim ax ay bx bY↔zq ax ay<zq bx bY)
 | 0,ax,ay,bx,bY,hn=>by
  obtain⟨rfl,rfl,rfl,rfl⟩:ax=0∧ay=0∧bx=0∧bY=0:=by omega
  unfold zim;simp
 | n+1,ax,ay,bx,bY,hn=>by
  have sa:=zev ax ay;have sb:=zev bx bY;unfold zim;by_cases hs:ax / 2=bx / 2∧ay / 2=bY / 2
  ·rw[hs.1,hs.2] at sa;by_cases hy:ay=bY
   ·have py:prtN ay bY=0:=(zaB _ _).2 hy;by_cases hx:ax=bx
    ·have px:prtN ax bx=0:=(zaB _ _).2 hx;rw[px,py,if_neg (Nat.lt_irrefl 0),hx,hy];omega
    ·have px:prtN ax bx≠0:=fun e=>hx ((zaB _ _).1 e);rw[if_pos (by omega)];omega
   ·have py:=zdD hy;have py0:prtN (ay / 2) (bY / 2)=0:=(zaB _ _).2 hs.2;have px:prtN ax bx≤1:=by
     by_cases hx:ax=bx
     ·have:=(zaB _ _).2 hx;omega
     ·have h1:=zdD hx;have h2:prtN (ax / 2) (bx / 2)=0:=(zaB _ _).2 hs.1;omega
    rw[if_neg (by omega)];omega
  ·have ih:=znk n (ax / 2) (ay / 2) (bx / 2) (bY / 2) (by
    rcases Nat.eq_zero_or_pos (ax+ay+bx+bY) with h0|h0
    ·exact absurd ⟨by omega,by omega⟩ hs
    ·omega)
   have hz:zq (ax / 2) (ay / 2)≠zq (bx / 2) (bY / 2):=fun e=>hs (zyL e);have hcmp:zq ax ay<zq bx bY↔zq (ax / 2) (ay / 2)<zq (bx / 2) (bY / 2):=by omega
   rw[hcmp,←ih];unfold zim;by_cases hy:ay=bY
   ·have hy2:ay / 2=bY / 2:=by omega
    have hx2:ax / 2≠bx / 2:=fun e=>hs ⟨e,hy2⟩;have hx:ax≠bx:=fun e=>hx2 (by omega);have p1:=zdD hx;have p2:prtN ay bY=0:=(zaB _ _).2 hy;have p3:prtN (ay / 2) (bY / 2)=0:=(zaB _ _).2 hy2;have p4:prtN (ax / 2) (bx / 2)≠0:=fun e=>hx2 ((zaB _ _).1 e);rw[if_pos (by omega),if_pos (by omega)];omega
   ·have py:=zdD hy;by_cases hx:ax=bx
    ·have px:prtN ax bx=0:=(zaB _ _).2 hx;have hx2:ax / 2=bx / 2:=by omega
     have px2:prtN (ax / 2) (bx / 2)=0:=(zaB _ _).2 hx2;have hy2:ay / 2≠bY / 2:=fun e=>hs ⟨hx2,e⟩;rw[if_neg (by omega),if_neg (by omega)];omega
    ·have px:=zdD hx;by_cases hc:prtN (ay / 2) (bY / 2)<prtN (ax / 2) (bx / 2)
     ·rw[if_pos (by omega),if_pos hc];have hx2:ax / 2≠bx / 2:=fun e=>by have:=(zaB _ _).2 e;omega
      omega
     ·rw[if_neg (by omega),if_neg hc];have hy2:ay / 2≠bY / 2:=fun e=>by
       have h1:=(zaB _ _).2 e;have h2:ax / 2=bx / 2:=(zaB _ _).1 (by omega);exact hs ⟨h2,e⟩
      omega
theorem zqn (ax ay bx bY:Nat):zim ax ay bx bY↔zq ax ay<zq bx bY:=znk _ ax ay bx bY (Nat.le_refl _)
def qtr (m x y:Nat):Nat:=x / 2^m%2+2*(y / 2^m%2)
theorem znl (m x y:Nat):qtr m x y<4:=by unfold qtr;omega
theorem zqo:∀(m x y:Nat),zq x y / 4^m=zq (x / 2^m) (y / 2^m)
 | 0,x,y=>by simp
 | m+1,x,y=>by
  have h:=zqo m (x / 2) (y / 2);rw[Nat.pow_succ,Nat.mul_comm (4^m) 4,←Nat.div_div_eq_div_mul,show zq x y / 4=zq (x / 2) (y / 2) by have:=zev x y;omega,h,Nat.div_div_eq_div_mul,Nat.div_div_eq_div_mul,Nat.pow_succ,Nat.mul_comm (2^m) 2]
theorem ztr {m ax ay bx bY:Nat}(hx:ax / 2^(m+1)=bx / 2^(m+1))(hy:ay / 2^(m+1)=bY / 2^(m+1))(h:zq ax ay≤zq bx bY):qtr m ax ay≤qtr m bx bY:=by
 have h1:=Nat.div_le_div_right (c:=4^m) h;rw[zqo,zqo,zev (ax / 2^m),zev (bx / 2^m)] at h1;rw[Nat.pow_succ,←Nat.div_div_eq_div_mul,←Nat.div_div_eq_div_mul] at hx hy;rw[hx,hy] at h1;unfold qtr;omega
theorem zqp {xs ys:List Nat}(hx:Dig xs)(hy:Dig ys){i:Nat}(he:∀j,i<j→xs[j]?.getD 0=ys[j]?.getD 0)(hn:xs[i]?.getD 0≠ys[i]?.getD 0) :
  prtN (val xs) (val ys)=32*i+blen (xs[i]?.getD 0 ^^^ ys[i]?.getD 0):=by
 obtain⟨u,hu⟩:∃u,u=xs[i]?.getD 0 ^^^ ys[i]?.getD 0:=⟨_,rfl⟩;have hu0:u≠0:=fun e=>hn (zji (hu.symm.trans e));have hL:=zgz u;have hG:=zgA hu0;have hb0:blen u≠0:=fun e=>by rw[e] at hL;simp at hL;exact hu0 hL
 have hb32:blen u≤32:=by
  rw[zdi,hu];exact Nat.xor_lt_two_pow (n:=32) (hx.getD _) (hy.getD _)
 rw[←hu];unfold prtN;have hbit:∀k,(val xs ^^^ val ys).testBit k=((xs[k / 32]?.getD 0).testBit (k%32)!=(ys[k / 32]?.getD 0).testBit (k%32)):=fun k=>by
  rw[Nat.testBit_xor,zbf hx,zbf hy]
 refine zpp ?_ (.inr ?_)
 ·refine Nat.lt_pow_two_of_testBit _ fun k hk=>?_;rw[hbit];rcases Nat.lt_or_ge i (k / 32) with h1|h1
  ·rw[he _ h1];simp
  ·have h2:k / 32=i:=by omega
   rw[h2];have h3:u.testBit (k%32)=false:=Nat.testBit_lt_two_pow (Nat.lt_of_lt_of_le hL (Nat.pow_le_pow_right (by decide) (by omega)));rw[hu,Nat.testBit_xor] at h3;exact h3
 ·refine Nat.ge_two_pow_of_testBit (i:=32*i+blen u-1) ?_;rw[hbit];have h2:(32*i+blen u-1) / 32=i:=by omega
  have h3:(32*i+blen u-1)%32=blen u-1:=by omega
  rw[h2,h3];have h4:u.testBit (blen u-1)=true:=by
   have h5:u / 2^(blen u-1)=1:=by
    have h6:u<2^(blen u-1)*2:=by rw[←Nat.pow_succ,show(blen u-1).succ=blen u by omega];exact hL
    have h7:=Nat.div_lt_of_lt_mul h6;have h8:=(Nat.one_le_div_iff (Nat.two_pow_pos _)).2 hG;omega
   rw[Nat.testBit_eq_decide_div_mod_eq,h5];rfl
  rw[hu,Nat.testBit_xor,←hu] at h4;exact h4
theorem zqq {xs ys:List Nat}(hx:Dig xs)(hy:Dig ys)(he:∀j:Nat,xs[j]?.getD 0=ys[j]?.getD 0):prtN (val xs) (val ys)=0:=by
 rw[zaB];refine Nat.eq_of_testBit_eq fun k=>?_;rw[zbf hx,zbf hy,he]
end Go.Proofs.YtbabbmdpgpcgjaaGreatDoor.Nds

namespace Go.Proofs.YtbabbmdpgpcgjaaGreatDoor
open Go.RowKit Go.Shelf Num
attribute [local go_sem] Oper.semAt_some
structure Gro (w w':World):Prop where
 b:Below w.heap.size w w'
 d:w.drawn≤w'.drawn
theorem Gro.refl (w:World):Gro w w:=⟨Below.refl _ _,Nat.le_refl _⟩
theorem Gro.trans {a b c:World}(h:Gro a b)(k:Gro b c):Gro a c:=⟨h.b.trans (k.b.mono h.b.size),Nat.le_trans h.d k.d⟩
theorem Gro.alloc {a w:World}(h:Gro a w)(o:Obj):Gro a (w.alloc o):=h.trans ⟨(Below.refl _ w).alloc (Nat.le_refl _) o,Nat.le_refl _⟩
theorem Gro.drewN {a w:World}(h:Gro a w)(n:Nat):Gro a (w.drewN n):=h.trans ⟨zac (Below.refl _ _) n,Nat.le_add_right _ _⟩
structure zcK {β:Type}(B:Nat)(I:β→World→Prop):Prop where
 lay:∀s W (o:Obj),I s W→o.isCells=false→I s (W.alloc o)
 put:∀s W l (o o':Obj),I s W→B≤l→W.heap[l]?=some o→o.isCells=false→I s (W.putObj l o')
theorem zcK.of_own {β:Type}{B:Nat}{I:β→World→Prop}(h:Own I):zcK B I :=
 ⟨fun s W o hs ho=>h s W _ none hs (World.grownBy_alloc W o none) (fun r e=>by cases e),fun s W l o o' hs hB hl ho=>h s W _ (some l) hs (grownBy_putObj' W l o') (fun r e=>by cases e;exact⟨o,hl,ho⟩)⟩
theorem zcK.and {β:Type}{B:Nat}{I I':β→World→Prop}(h:zcK B I)(k:zcK B I'):zcK B (fun s W=>I s W∧I' s W) :=
 ⟨fun s W o hs ho=>⟨h.lay s W o hs.1 ho,k.lay s W o hs.2 ho⟩,fun s W l o o' hs hB hl ho=>⟨h.put s W l o o' hs.1 hB hl ho,k.put s W l o o' hs.2 hB hl ho⟩⟩
theorem Gro.put {a W:World}(h:Gro a W){l:Nat}{o:Obj}(o':Obj)(hl:a.heap.size≤l)(ho:W.heap[l]?=some o):Gro a (W.putObj l o') :=
 ⟨h.b.grown (grownBy_putObj' W l o') h.b.size (fun k e=>by cases e;exact hl),h.d⟩
theorem Gro.setCell {a W:World}(h:Gro a W){p:Addr}(hp:a.heap.size≤p.block)(u:Value):Gro a (W.setCell p u):=⟨h.b.setCell hp u,h.d⟩
theorem zcK.gro {β:Type}{B:Nat}{w:World}(hB:w.heap.size≤B):zcK B (fun(_:β) W=>Gro w W) :=
 ⟨fun s W o hs _=>hs.alloc o,fun s W l o o' hs hl ho _=>hs.put o' (Nat.le_trans hB hl) ho⟩
theorem zqr (Bs n₀ cap:Nat)(A:Option Addr)(xs:List Nat)(hd:Dig xs)(hlen:xs.length≤1000000)(w0 w:World)(hBs:Bs<w.heap.size)(hn₀:n₀≤w.heap.size)
  (hc:w.cell? ⟨Bs,0,none⟩=some (.slice A xs.length cap)) (hU:Us w0 A cap xs) (h00:w0.heap.size=n₀) (hb0:Below n₀ w0 w)
  (l:Nat) (J Jx:List (Item xs.length)→World→Prop) (W:World) (hW:Below w.heap.size w W)
  (hY:∀pre x W,J pre W→pre.length<xs.length→YieldAt Fence.wide 2 Tryz.prog l (zhQ x) W fun e W' =>
   (e=.returned (.bool true)∧J (pre++[x]) W'∧zca n₀ Bs W W')∨(e=.returned (.bool false)∧Jx (pre++[x]) W')) (h0:J [] W) :
  CallsIn Fence.wide 3 Tryz.prog 229 #[.func (.yield l) #[] #[],.pointer (some ⟨Bs,0,none⟩)] W fun e W'=>(∃v,e=.returned v) ∧
   ((∃ys,ys=its xs hd xs.length∧J ys W')∨(∃pre,(∃k,k≤xs.length∧pre=its xs hd k)∧Jx pre W')):=by
 have hc':=(hW.cell (p:=⟨Bs,0,none⟩) hBs).trans hc;rcases Nat.eq_zero_or_pos xs.length with hz|hz
 ·rw[hz] at hc';refine(zfL Fence.wide 3 trivial rfl l Bs cap A W hc' (fun W'=>J [] W') h0).mono fun e W' ⟨he,hj⟩=>⟨he,.inl ⟨_,rfl,?_⟩⟩;rw[hz];exact hj
 ·obtain⟨b,off,rfl,hb,hcs⟩:=hU.at_ hz
  rw[h00] at hb;exact zmP Fence.wide 3 trivial rfl (by decide) l Bs n₀ b off cap xs hd hlen hb J Jx hY W hc' (fun j hj=>((hb0.trans (hW.mono hn₀)).cell (p:=⟨b,off+j,none⟩) hb).trans (hcs j hj)) h0
def zts (n₀ Bs:Nat){β:Type}(I Ix:List β→World→Prop)(xs:List β)(W:World):Exit→Act→World→Prop
 | .normal,_,W'=>KeepsOthers W W'∧zca n₀ Bs W W'∧I xs W'
 | .ret,_,W'=>KeepsOthers W W'∧Ix xs W'
 | _,_,_=>False
theorem zin {g:Operand}{ps:Array Tmp}{assign body:Code}{Q:Exit→Act→World→Prop}{a:Act}{w:World}
    (Bs n₀ cap:Nat) (A:Option Addr) (xs:List Nat) (hd:Dig xs) (hlen:xs.length≤1000000) (w0:World)
    (hg:a.eval g=.func (.func 229) #[] #[.pointer (some ⟨Bs,0,none⟩)])
    (hBs:Bs<w.heap.size) (hn₀:n₀≤w.heap.size) (hc:w.cell? ⟨Bs,0,none⟩=some (.slice A xs.length cap)) (hU:Us w0 A cap xs) (h00:w0.heap.size=n₀) (hb0:Below n₀ w0 w)
    (hps:ps.size=2) (I Ix:List (Item xs.length)→World→Prop) (hI:zcK w.heap.size I) (hX:zcK w.heap.size Ix) (h0:I [] w) (a₁:Item xs.length→Act)
    (hassign:∀(l:Nat) (x:Item xs.length) (W:World) (K:Act→World→Prop),K (a₁ x) W →
      assign.wpIn (Fence.wide.inRound l) 2 Tryz.prog (Exit.then K (fun _ _ _=>False)) { tmps:=(ps.zip (zhQ x)).foldl (fun t (p,v)=>t.setIfInBounds p v) a.tmps,defers:=[] } W)
    (hbody:∀(l:Nat) (pre:List (Item xs.length)) (x:Item xs.length) (W:World),I pre W→pre.length<xs.length→body.wpIn (Fence.wide.inRound l) 2 Tryz.prog (zts n₀ Bs I Ix (pre++[x]) W) (a₁ x) W)
    (hdone:∀(D:Nat) (ys:List (Item xs.length)) (W:World),w.heap.size≤D→ys=its xs hd xs.length→I ys W→W.heap[D]?=some (.deferred (some []))→Q .normal { a with defers:={ target:=.collected D,args:=#[] } :: a.defers } W)
    (hstop:∀(D:Nat) (pre:List (Item xs.length)) (W:World),w.heap.size≤D→(∃k,k≤xs.length∧pre=its xs hd k)→Ix pre W→W.heap[D]?=some (.deferred (some []))→Code.ret.wpIn Fence.wide 4 Tryz.prog Q { a with defers:={ target:=.collected D,args:=#[] } :: a.defers } W) :
    (Code.rangeFunc g ps assign body).wpIn Fence.wide 4 Tryz.prog Q a w:=by
  refine wpIn_rangeFunc fun fn hfn=>?_
  let mark:Obj:=.deferred (some [])
  let rec0:Loop:={ state:=.ready,pending:=none,fn:=fn,tmps:=a.tmps,params:=ps,assign:=assign,body:=body,defers:=w.heap.size }
  obtain⟨V,hV⟩:∃V,(w.alloc mark).alloc (.loop rec0)=V:=⟨_,rfl⟩;have hsV:V.heap.size=w.heap.size+2:=by rw[←hV];simp
  have hmk:V.heap[w.heap.size]?=some mark:=by
    rw[←hV];exact(Below.heap_alloc _ _ _ (by simp)).trans (World.alloc_heap_new w _)
  have hlp:V.heap[w.heap.size+1]?=some (.loop rec0):=by
    have:=World.alloc_heap_new (w.alloc mark) (.loop rec0);rw[World.size_alloc] at this;rw[←hV];exact this
  have hIV:I [] V:=by rw[←hV];exact hI.lay _ _ _ (hI.lay _ _ _ h0 rfl) rfl
  have hbV:Below w.heap.size w V:=by rw[←hV];exact((Below.refl _ w).alloc (Nat.le_refl _) _).alloc (by simp) _
  refine⟨w.heap.size+1,[{ target:=.collected w.heap.size,args:=#[] }],V,{ target:=.fn (.func 229) #[.pointer (some ⟨Bs,0,none⟩)],args:=#[.func (.yield (w.heap.size+1)) #[] #[]] },V,229,
    #[.func (.yield (w.heap.size+1)) #[] #[],.pointer (some ⟨Bs,0,none⟩)],V,?_,?_,fun _ _=>trivial,?_,(fun _=>by decide),?_⟩
  · rw[←hV];exact run_enterLoop_outer _ _ _ _ _
  · simp only[resolve,hg]
    simp[go_sem]
  · have eg:∀args w,(callFunc 229 args).run Tryz.prog w=.ok (.enter 229 args) w:=enters_of Tryz.func229 (by kernel_rfl) rfl
    simp[invoke,go_sem,eg]
  · have both:∀(W W':World) (r r':Loop),W.heap[w.heap.size+1]?=some (.loop r)→W'=W.putObj (w.heap.size+1) (.loop r')→W.heap[w.heap.size]?=some mark →
        W'.heap[w.heap.size+1]?=some (.loop r')∧W'.heap[w.heap.size]?=some mark:=fun W W' r r' h1 h2 h3=>by
      subst h2;exact⟨World.putObj_heap_same (Array.getElem?_eq_some_iff.1 h1).1,(World.putObj_heap_other (by omega)).trans h3⟩
    refine(zqr Bs n₀ cap A xs hd hlen w0 w hBs hn₀ hc hU h00 hb0 (w.heap.size+1)
      (fun pre W=>I pre W∧W.heap[w.heap.size+1]?=some (.loop rec0)∧W.heap[w.heap.size]?=some mark)
      (fun pre W=>Ix pre W∧W.heap[w.heap.size+1]?=some (.loop { rec0 with state:=.done,pending:=some .ret })∧W.heap[w.heap.size]?=some mark)
      V hbV ?_ ⟨hIV,hlp,hmk⟩).mono ?_
    · rintro pre x W ⟨hi,hl,hk⟩ hlen
      refine⟨fn,_,assign,body,run_yield (P:=Tryz.prog) (args:=zhQ x) hl (by rw[show rec0.params=ps from rfl,hps];rfl),roundIn_of_wpIn hfn (hassign _ x W _ ?_)⟩;obtain⟨h1,h2⟩:=both W _ rec0 { rec0 with state:=.busy } hl rfl hk;refine⟨_,run_beginRound hl rfl,wpIn_mono (hbody _ pre x _ (hI.put _ _ _ _ _ hi (by omega) hl rfl) hlen) ?_⟩;rintro e a3 W3 hp;have s2:=zca.b (n₀:=n₀) (Bs:=Bs) hn₀ hBs W (w.heap.size+1) (.loop rec0) (.loop { rec0 with state:=.busy }) (by omega) hl rfl rfl;cases e with
      | normal =>
        obtain⟨k3,b3,i3⟩:=hp;have l3:=k3.same _ _ h1 rfl;obtain⟨h4,h5⟩:=both W3 _ { rec0 with state:=.busy } rec0 l3 rfl (k3.same _ _ h2 rfl);exact⟨_,_,run_endRound (P:=Tryz.prog) none l3,.inl ⟨rfl,⟨hI.put _ _ _ _ _ i3 (by omega) l3 rfl,h4,h5⟩,(s2.trans b3).trans (zca.b hn₀ hBs W3 (w.heap.size+1) _ _ (by omega) l3 rfl rfl)⟩⟩
      | ret =>
        obtain⟨k3,i3⟩:=hp;have l3:=k3.same _ _ h1 rfl;obtain⟨h4,h5⟩:=both W3 _ { rec0 with state:=.busy } { rec0 with state:=.done,pending:=some .ret } l3 rfl (k3.same _ _ h2 rfl);exact⟨_,_,run_endRound (P:=Tryz.prog) (some .ret) l3,.inr ⟨rfl,hX.put _ _ _ _ _ i3 (by omega) l3 rfl,h4,h5⟩⟩
      | exit id=>exact hp.elim
      | goto t=>exact hp.elim
      | panic ch=>exact hp.elim
      | outgrown=>exact hp.elim
    · rintro e W2 ⟨⟨v,rfl⟩,(⟨ys,hS,hi,hl,hk⟩|⟨pre,hSp,hi,hl,hk⟩)⟩
      · exact⟨none,_,run_endLoop (P:=Tryz.prog) hl (by simp[rec0]),hdone _ ys _ (Nat.le_refl _) hS (hI.put _ _ _ _ _ hi (by omega) hl rfl) ((World.putObj_heap_other (by omega)).trans hk)⟩
      · exact⟨some .ret,_,run_endLoop (P:=Tryz.prog) hl (by simp),hstop _ pre _ (Nat.le_refl _) hSp (hX.put _ _ _ _ _ hi (by omega) hl rfl) ((World.putObj_heap_other (by omega)).trans hk)⟩
def zyM (A:Option Addr)(c B0:Nat)(xs:List Nat)(w:World)(pre:List (Item xs.length))(W:World):Prop :=
 ((∀y∈pre,y.1.2=0)∧W.cell? ⟨B0,0,none⟩=some (.slice A xs.length c)∧W.cell? ⟨B0+1,0,none⟩=some (.slice none 0 0)∧W.frozen? ⟨B0+1,0,none⟩=false)∧Gro w W
def zyN (A:Option Addr)(c B0:Nat)(xs:List Nat)(w:World)(pre:List (Item xs.length))(W:World):Prop :=
 (∃p x,pre=p++[x]∧(∀y∈p,y.1.2=0)∧x.1.2≠0∧W.cell? ⟨B0+1,0,none⟩=some (.slice A (x.1.1+1) c))∧Gro w W
def zyO (A:Option Addr)(c:Nat)(xs:List Nat)(w:World)(e:Ending)(w':World):Prop :=
 ∃A' c' rs,e=.returned (.slice A' rs.length c')∧(∀W,Us W A c xs→Us W A' c' rs)∧zaS rs∧val rs=val xs∧rs.length≤xs.length∧Gro w w'
theorem znm (A:Option Addr)(c:Nat)(xs:List Nat)(w:World)(h:Us w A c xs)(hl:xs.length≤1000000) :
  Calls Tryz.prog 200 #[.slice A xs.length c] w (zyO A c xs w):=by
 refine(callsIn_wide (n:=4)).1 ?_;have hd:=h.1;obtain⟨hcap1,hcap2⟩:=h.cap;have HH:=Hh h;clear h;refine callsIn_of_wp_marks Tryz.func200 rfl trivial ?_ rfl;simp only[Tryz.ntmps200,List.size_toArray,List.length_cons,List.length_nil,Nat.reduceAdd,Nat.reduceSub,Array.replicate_succ,Array.replicate_zero,List.push_toArray,List.append_toArray,List.nil_append,List.cons_append]
 gi_wp2_with (refine⟨trivial,?_⟩;gi_at_call 214;refine(callsIn_wide.2 (zfW _ _ _ _)).mono ?_;rintro e w' ⟨rfl,rfl⟩)
 have c0:=zaA w (.slice A xs.length c) 67;have c1:=zaA (w.alloc (.cells #[.slice A xs.length c] 67)) (.slice none 0 0) 67;have c2:=zaA ((w.alloc (.cells #[.slice A xs.length c] 67)).alloc (.cells #[.slice none 0 0] 67)) (.slice A xs.length c) 67;simp only[World.size_alloc] at c1 c2;have hG0:Gro w (((w.alloc (.cells #[.slice A xs.length c] 67)).alloc (.cells #[.slice none 0 0] 67)).alloc (.cells #[.slice A xs.length c] 67)):=(((Gro.refl w).alloc _).alloc _).alloc _;refine zin (w.heap.size+1+1) w.heap.size c A xs hd hl w rfl (by simp) (by simp;omega) c2.1 HH.out rfl hG0.b rfl
  (zyM A c w.heap.size xs w) (zyN A c w.heap.size xs w)
  (zcK.and (zcK.of_own (fun s A B row hs hg hr=>⟨hs.1,cell_kept hs.2.1 hg hr,cell_kept hs.2.2.1 hg hr,(frozen_kept hs.2.2.1 hg hr).trans hs.2.2.2⟩)) (zcK.gro (by simp;omega)))
  (zcK.and (zcK.of_own (fun s A B row hs hg hr=>by obtain⟨p,x,e1,e2,e3,e4⟩:=hs;exact⟨p,x,e1,e2,e3,cell_kept e4 hg hr⟩)) (zcK.gro (by simp;omega)))
  ⟨⟨by simp,zaU _ (zaU _ c0.1),zaU _ c1.1,zbN _ c1.1 c1.2⟩,hG0⟩
  (fun x=>{ tmps:=#[.slice A xs.length c,.pointer (some ⟨w.heap.size,0,none⟩),.pointer (some ⟨w.heap.size+1,0,none⟩),.int .i64 (x.1.1:Int),.int .u32 (x.1.2:Int),.slice A xs.length c,.func (.func 229) #[] #[.pointer (some ⟨w.heap.size+1+1,0,none⟩)],.int .i64 (x.1.1:Int),.int .u32 (x.1.2:Int),undef,undef,undef,undef,undef,undef],defers:=[] }) ?assign ?body ?done ?stop
 case assign =>
  intro l x W K hK;unfold zhQ
  gi_wp2
  exact hK
 case body =>
  rintro l pre x W ⟨⟨hz,hca,hcr,hfr⟩,hB⟩ hpre;obtain⟨⟨i,y⟩,hxi⟩:=x;have hi':i<xs.length:=hxi.1 (by omega);have hy:y<4294967296:=hxi.2;dsimp only;have HZ:=Hh hz;have HB:=Hh hB;clear hz hB c0 c1 c2 hG0;by_cases hy0:y=0
  ·subst hy0
   gi_wp2
   refine⟨KeepsOthers.refl _,zca.refl _ _ _,⟨fun z hz=>?_,hca,hcr,hfr⟩,HB.out⟩;rcases List.mem_append.1 hz with hz|hz
   ·exact HZ.out z hz
   ·simp only[List.mem_singleton] at hz;subst hz;rfl
  ·have t1:((y:Int)!=0)=true:=by rw[bne_iff_ne];omega
   have hic:(i:Int)+1≤(c:Int):=by omega
   gi_wp2
   refine⟨KeepsOthers.setCell _ _ _,⟨pre,_,rfl,HZ.out,hy0,World.cell?_setCell_same' _ _ _ (by rw[hcr];rfl)⟩,HB.out.setCell (p:=⟨w.heap.size+1,0,none⟩) (by simp) _⟩
 case done =>
  rintro D ys W hD rfl ⟨⟨hz,hca,hcr,hfr⟩,hB⟩ hK;have hv:=zka hz;have HZ:=Hh hz;have HB:=Hh hB;have HV:=Hh hv;clear hz hB hv c0 c1 c2 hG0
  gi_wp2
  have hK':=(KeepsOthers.setCell W ⟨w.heap.size+1,0,none⟩ (.slice none 0 0)).same D _ hK rfl;refine⟨by simp,.inl ⟨_,_,rfl,run_takeDeferred hK',?_⟩⟩;have hc5:=cell_kept (World.cell?_setCell_same' W ⟨w.heap.size+1,0,none⟩ (.slice none 0 0) (by rw[hcr];rfl)) (grownBy_putObj' _ D (.deferred none)) (fun r e=>by cases e;exact⟨_,hK',rfl⟩);refine⟨.slice none 0 0,?_,none,0,[],rfl,fun W _=>Us.nil W,zbe,by rw[HV.out];rfl,Nat.zero_le _,(HB.out.setCell (p:=⟨w.heap.size+1,0,none⟩) (by simp) _).put (.deferred none) (by simp at hD;omega) hK'⟩;simp[results,Tryz.f200,go_sem,hc5]
 case stop =>
  rintro D pre W hD ⟨k,hk,hpre⟩ ⟨⟨p,x,e1,e2,e3,hcr⟩,hB⟩ hK;obtain⟨g1,g2,g3,g4⟩:=zkb hk (e1.symm.trans hpre) e2 e3;have HB:=Hh hB;clear hB e1 e2 hpre c0 c1 c2 hG0
  gi_wp2
  refine⟨by simp,.inl ⟨_,_,rfl,run_takeDeferred hK,?_⟩⟩;have hc5:=cell_kept hcr (grownBy_putObj' _ D (.deferred none)) (fun r e=>by cases e;exact⟨_,hK,rfl⟩);refine⟨.slice A (x.1.1+1) c,?_,A,c,xs.take (x.1.1+1),?_,fun W hW=>hW.take (by omega),g3,g4,by rw[List.length_take];omega,HB.out.put (.deferred none) (by simp at hD;omega) hK⟩
  ·simp[results,Tryz.f200,go_sem,hc5]
  ·rw[List.length_take,Nat.min_eq_left (by omega)]
end Go.Proofs.YtbabbmdpgpcgjaaGreatDoor

namespace Go.Proofs.YtbabbmdpgpcgjaaGreatDoor
open Go.RowKit Go.Shelf Num Nds
attribute [local go_sem] Oper.semAt_some
def zqs (B0 n m:Nat)(w:World)(s0:Value)(wx:World):Prop :=
 ∃A c ra B d rb,s0=.slice A ra.length c∧wx.cell? ⟨B0,0,none⟩=some (.slice B rb.length d)∧wx.cell? ⟨B0+1,0,none⟩=some (.int .i64 0)∧wx.frozen? ⟨B0+1,0,none⟩=false ∧
  Us wx A c ra∧Us wx B d rb∧zaS ra∧zaS rb∧val ra=n∧val rb=m∧ra.length≤1000000∧rb.length≤1000000∧Gro w wx
structure zeS (w W0:World)(v:Value)(W:World):Prop where
 size:W0.heap.size=w.heap.size+2
 cell:W.cell? ⟨w.heap.size,0,none⟩=some v
 free:W.frozen? ⟨w.heap.size,0,none⟩=false
 cellR:W.cell? ⟨w.heap.size+1,0,none⟩=some (.int .i64 0)
 freeR:W.frozen? ⟨w.heap.size+1,0,none⟩=false
 b:Gro W0 W
 base:Gro w W0
theorem zeS.next {w W0 W W1:World}{v:Value}(h:zeS w W0 v W)(hg:Gro W W1):zeS w W0 v W1 :=
 have l0:=zag h.cell;have l1:=zag h.cellR;have hb:=hg.b
 ⟨h.size,(hb.cell (p:=⟨w.heap.size,0,none⟩) l0).trans h.cell,(hb.frozen (p:=⟨w.heap.size,0,none⟩) l0).trans h.free,(hb.cell (p:=⟨w.heap.size+1,0,none⟩) l1).trans h.cellR,(hb.frozen (p:=⟨w.heap.size+1,0,none⟩) l1).trans h.freeR,
  h.b.trans hg,h.base⟩
theorem ztt {w W0 w2:World}{v:Value}{A B A1 A2:Option Addr}{c d c1 c2:Nat}{xs ys r1 r2:List Nat}(h:Us w A c xs)(k:Us w B d ys)(st:zeS w W0 v w2)
  (h1:(∀W,Us W A c xs→Us W A1 c1 r1)∧zaS r1∧val r1=val xs∧r1.length≤xs.length) (h2:(∀W,Us W B d ys→Us W A2 c2 r2)∧zaS r2∧val r2=val ys∧r2.length≤ys.length)
  (hx:xs.length≤1000000) (hy:ys.length≤1000000) :
  zqs w.heap.size (val xs) (val ys) w (.slice A1 r1.length c1) (w2.setCell ⟨w.heap.size,0,none⟩ (.slice A2 r2.length c2)):=by
 have hb:Gro w (w2.setCell ⟨w.heap.size,0,none⟩ (.slice A2 r2.length c2)):=(st.base.trans st.b).setCell (p:=⟨w.heap.size,0,none⟩) (Nat.le_refl _) _;refine⟨A1,c1,r1,A2,c2,r2,rfl,World.cell?_setCell_same' _ _ _ (by rw[st.cell];rfl),?_,?_,h1.1 _ (h.below hb.b),h2.1 _ (k.below hb.b),h1.2.1,h2.2.1,h1.2.2.1,h2.2.2.1,by omega,by omega,hb⟩
 ·rw[World.cell?_setCell_other _ _ _ _ (by simp)];exact st.cellR
 ·rw[World.frozen?_setCell];exact st.freeR
def cmpJ (xs ys:List Nat)(w:World)(pre:List (Item xs.length))(W:World):Prop :=
 ((∀y∈pre,y.1.2=ys[y.1.1]?.getD 0))∧Gro w W
def cmpY (B1:Nat)(xs ys:List Nat)(w:World)(pre:List (Item xs.length))(W:World):Prop :=
 (∃p x,pre=p++[x]∧(∀y∈p,y.1.2=ys[y.1.1]?.getD 0)∧x.1.2≠ys[x.1.1]?.getD 0∧W.cell? ⟨B1,0,none⟩=some (.int .i64 (cmpN x.1.2 (ys[x.1.1]?.getD 0))))∧Gro w W
theorem zqt (A B:Option Addr)(c d:Nat)(xs ys:List Nat)(w:World)(h:Us w A c xs)(k:Us w B d ys)(hx:xs.length≤1000000)(hy:ys.length≤1000000) :
    Calls Tryz.prog 182 #[.slice A xs.length c,.slice B ys.length d] w fun e w'=>e=.returned (.int .i64 (cmpN (val xs) (val ys)))∧Gro w w':=by
  have H1:=Hh h;have H2:=Hh k;clear h k;refine zeG Tryz.func182 rfl ?_;simp only[Tryz.ntmps182,List.size_toArray,List.length_cons,List.length_nil,Nat.reduceAdd,Nat.reduceSub,Array.replicate_succ,Array.replicate_zero,List.push_toArray,List.append_toArray,List.nil_append,List.cons_append];go_upto_region 1 with fail
  go_cut [0] from 7 to 10 (fun s0 wx=>zqs w.heap.size (val xs) (val ys) w s0 wx)
  case first =>
    have c0:=zaA w (.slice B ys.length d) 67;have c1:=zaA (w.alloc (.cells #[.slice B ys.length d] 67)) (.int .i64 0) 3;simp only[World.size_alloc] at c1;obtain⟨W0,hW0⟩:∃W0,(w.alloc (.cells #[.slice B ys.length d] 67)).alloc (.cells #[.int .i64 0] 3)=W0:=⟨_,rfl⟩;have st:zeS w W0 (.slice B ys.length d) W0.drew:=by
      rw[←hW0];exact⟨by simp,zaU _ c0.1,zbN _ c0.1 c0.2,c1.1,c1.2,(Gro.refl _).drewN 1,((Gro.refl w).alloc _).alloc _⟩
    have uA:=H1.out.below st.base.b;have uB:=H2.out.below st.base.b;have cB:=st.cell;have fB:=st.free;rw[hW0];clear hW0 c0 c1;have UA:=Hh uA;have UB:=Hh uB;clear uA uB;refine zcc ?_;go_region_with (first
      | (go_at_call_of 200 (Value.slice A xs.length c);refine(znm A c xs _ (UA.out.below (zeS.b (by assumption)).b) hx).mono ?_;rintro e w1 ⟨A1,c1,r1,rfl,u1,k1,v1,l1,b1⟩;have st1:=zeS.next (by assumption) b1;have cB1:=st1.cell;have fB1:=st1.free;have U1:=Hh (And.intro u1 (And.intro k1 (And.intro v1 l1)));clear u1 k1 v1 l1)
      | (go_at_call_of 200 (Value.slice B ys.length d);refine(znm B d ys _ (UB.out.below (zeS.b (by assumption)).b) hy).mono ?_;rintro e w2 ⟨A2,c2,r2,rfl,u2,k2,v2,l2,b2⟩;have st2:=zeS.next (by assumption) b2;have cB2:=st2.cell;have fB2:=st2.free;have U2:=Hh (And.intro u2 (And.intro k2 (And.intro v2 l2)));clear u2 k2 v2 l2))
    all_goals
      unfold zcO;go_wp2_with fail;go_meet;exact ztt H1.out H2.out st2 U1.out U2.out hx hy
  case rest =>
    obtain⟨A1,cc1,ra,B1,d1,rb,rfl,hcB,hcR,hfR,uA,uB,kA,kB,vA,vB,lA,lB,hbw⟩:=hcut;have UA:=Hh uA;have UB:=Hh uB;have hd:=uA.1;have HV:=Hh (And.intro vA vB);have HBW:=Hh hbw;have hsz:=zag hcR;dsimp only at hsz;clear uA uB vA vB H1 H2 hx hy hbw;by_cases hl:ra.length=rb.length
    · have t1:((ra.length:Int)!=(rb.length:Int))=false:=by rw[bne_eq_false_iff_eq];omega
      have HL:=Hh hl;clear hl;go_wp2_with (go_at_call 214;refine(zfW _ _ _ _).mono ?_;rintro e w' ⟨rfl,rfl⟩);have c1:=zaA wc (.slice A1 ra.length cc1) 67;have hG0:Gro wc (wc.alloc (.cells #[.slice A1 ra.length cc1] 67)):=(Gro.refl wc).alloc _;have hle:=HBW.out.b.size;refine wpIn_wide.1 (zin wc.heap.size wc.heap.size cc1 A1 ra hd lA wc rfl (by simp) (by simp) c1.1 UA.out rfl hG0.b rfl
        (cmpJ ra rb wc) (cmpY (w.heap.size+1) ra rb w)
        (zcK.and ⟨fun s W o hs _=>hs,fun s W l o o' hs _ _ _=>hs⟩ (zcK.gro (by simp)))
        (zcK.and (zcK.of_own (fun s A B row hs hg hr=>by obtain⟨p,x,e1,e2,e3,e4⟩:=hs;exact⟨p,x,e1,e2,e3,cell_kept e4 hg hr⟩)) (zcK.gro (by simp;omega)))
        ⟨by simp,hG0⟩
        (fun x=>{ tmps:=#[.slice A1 ra.length cc1,.slice B ys.length d,undef,.pointer (some ⟨w.heap.size,0,none⟩),.pointer (some ⟨w.heap.size+1,0,none⟩),.int .i64 (x.1.1:Int),.int .u32 (x.1.2:Int),u7,u8,u9,u10,.slice A1 ra.length cc1,.int .i64 (ra.length:Int),.slice B1 rb.length d1,.int .i64 (rb.length:Int),.bool false,undef,undef,undef,undef,undef,.slice A1 ra.length cc1,
          .func (.func 229) #[] #[.pointer (some ⟨wc.heap.size,0,none⟩)],.int .i64 (x.1.1:Int),.int .u32 (x.1.2:Int),undef,undef,undef,undef,undef,undef,undef,undef,undef,undef,undef,undef],defers:=[] }) ?assign ?body ?done ?stop)
      case assign =>
        intro l x W K hK;unfold zhQ
        gi_wp2
        exact hK
      case body =>
        rintro l pre x W ⟨hz,hB⟩ hpre;obtain⟨⟨i,y⟩,hxi⟩:=x;have hi':i<ra.length:=hxi.1 (by omega);have hy:y<4294967296:=hxi.2;dsimp only;have eB:=(hB.b.cell (p:=⟨w.heap.size,0,none⟩) (by show w.heap.size<_;omega)).trans hcB;have eR:=(hB.b.cell (p:=⟨w.heap.size+1,0,none⟩) hsz).trans hcR;have gR:=(hB.b.frozen (p:=⟨w.heap.size+1,0,none⟩) hsz).trans hfR;have hi2:i<rb.length:=by rw[←HL.out];exact hi'
        obtain⟨b2,off2,hA2,hb2,hc2⟩:=UB.out.at_ (show 0<rb.length by omega)
        have e2:=(hB.b.cell (p:=⟨b2,off2+i,none⟩) hb2).trans (hc2 i hi2);rw[hA2] at eB;have HZ:=Hh hz;have HB:=Hh hB;obtain⟨z,hzz⟩:∃z,z=rb[i]?.getD 0:=⟨_,rfl⟩;rw[←hzz] at e2;have HZZ:=Hh hzz;clear hz hB c1 hG0 hcB hcR hfR hc2 hA2 hzz t1;by_cases hy0:y=z
        · subst hy0
          have t2:((y:Int)!=(y:Int))=false:=by simp
          gi_wp2
          refine⟨KeepsOthers.refl _,zca.refl _ _ _,fun q hq=>?_,HB.out⟩;rcases List.mem_append.1 hq with hq|hq
          · exact HZ.out q hq
          · simp only[List.mem_singleton] at hq;subst hq;exact HZZ.out
        · have t2:((y:Int)!=(z:Int))=true:=by rw[bne_iff_ne];omega
          gi_wp2_with (refine⟨trivial,?_⟩;gi_at_call 215;refine(CallsIn.inRound l (callsIn_wide.2 (zic y z _))).mono ?_;rintro e w' ⟨rfl,rfl⟩)
          refine⟨KeepsOthers.setCell _ _ _,⟨pre,_,rfl,HZ.out,?_,?_⟩,(HBW.out.trans HB.out).setCell (p:=⟨w.heap.size+1,0,none⟩) (by simp) _⟩
          · show y≠rb[i]?.getD 0
            rw[←HZZ.out];exact hy0
          · show _=some (Value.int .i64 (cmpN y (rb[i]?.getD 0)))
            rw[←HZZ.out];exact World.cell?_setCell_same' _ _ _ (by rw[eR];rfl)
      case done =>
        rintro D zs W hD rfl ⟨hz,hB⟩ hK;have hv:=zmM HL.out (zmR hz);have eR:=(hB.b.cell (p:=⟨w.heap.size+1,0,none⟩) hsz).trans hcR;have gR:=(hB.b.frozen (p:=⟨w.heap.size+1,0,none⟩) hsz).trans hfR;have HB:=Hh hB;have HV2:=Hh hv;clear hz hB hv c1 hG0 hcB hcR hfR t1;go_wp2;have hK':=(KeepsOthers.setCell W ⟨w.heap.size+1,0,none⟩ (.int .i64 0)).same D _ hK rfl;refine⟨by simp,.inl ⟨_,_,rfl,run_takeDeferred hK',?_⟩⟩;have hc5:=cell_kept (World.cell?_setCell_same' W ⟨w.heap.size+1,0,none⟩ (.int .i64 0) (by rw[eR];rfl)) (grownBy_putObj' _ D (.deferred none)) (fun r e=>by cases e;exact⟨_,hK',rfl⟩);refine⟨.int .i64 0,?_,?_,((HBW.out.trans HB.out).setCell (p:=⟨w.heap.size+1,0,none⟩) (by simp) _).put (.deferred none) (by simp at hD;omega) hK'⟩
        · simp[results,Tryz.f182,go_sem,hc5]
        · rw[←HV.out.1,←HV.out.2,HV2.out]
          simp[cmpN]
      case stop =>
        rintro D pre W hD ⟨k,hk,hpre⟩ ⟨⟨p,x,e1,e2,e3,hcr⟩,hB⟩ hK;obtain⟨g1,g2,g3⟩:=zmS hk (e1.symm.trans hpre) e2;have g4:=zuU hd UB.out.1 HL.out g1 g3 (by rw[←g2];exact e3);rw[←g2] at g4;have G4:=Hh g4;have HB:=Hh hB;clear hB e1 e2 hpre c1 hG0 g4 g2 g3 hcB hcR hfR t1
        gi_wp2
        refine⟨by simp,.inl ⟨_,_,rfl,run_takeDeferred hK,?_⟩⟩;have hc5:=cell_kept hcr (grownBy_putObj' _ D (.deferred none)) (fun r e=>by cases e;exact⟨_,hK,rfl⟩);refine⟨.int .i64 (cmpN x.1.2 (rb[x.1.1]?.getD 0)),?_,?_,HB.out.put (.deferred none) (by simp at hD;omega) hK⟩
        · simp[results,Tryz.f182,go_sem,hc5]
        · rw[←HV.out.1,←HV.out.2,G4.out]
    · have t1:((ra.length:Int)!=(rb.length:Int))=true:=by rw[bne_iff_ne];omega
      go_wp2_with (go_at_call 136;refine(zfn _ _ _).mono ?_;rintro e w' ⟨rfl,rfl⟩);have hc5:=World.cell?_setCell_same' wc ⟨w.heap.size+1,0,none⟩ (.int .i64 (cmpZ (ra.length:Int) (rb.length:Int))) (by rw[hcR];rfl);refine⟨.int .i64 (cmpZ (ra.length:Int) (rb.length:Int)),?_,?_,HBW.out.setCell (p:=⟨w.heap.size+1,0,none⟩) (by simp) _⟩
      · simp[results,Tryz.f182,go_sem,hc5]
      · rw[←HV.out.1,←HV.out.2]
        congr 2;unfold cmpN cmpZ;rcases Nat.lt_or_ge ra.length rb.length with hlt|hge
        · rw[if_pos (zeD hd kB hlt),if_pos (by omega)]
        · have:=zeD UB.out.1 kA (show rb.length<ra.length by omega)
          rw[if_neg (by omega),if_neg (by omega),if_neg (by omega),if_neg (by omega)]
theorem zeT (s t:Bool)(A B:Option Addr)(c d:Nat)(xs ys:List Nat)(w:World)(h:Us w A c xs)(k:Us w B d ys)(hl:xs.length≤60000)(kl:ys.length≤60000)(hc:zaC s xs)(kc:zaC t ys) :
  Calls Tryz.prog 148 #[.agg #[.bool s,.slice A xs.length c],.agg #[.bool t,.slice B ys.length d]] w fun e w'=>e=.returned (.int .i64 (ordI (ival s xs) (ival t ys)))∧Gro w w':=by
 have hcap:=h.cap;have kcap:=k.cap;have hB:Gro w ((w.alloc (.cells #[.bool s,.slice A xs.length c] 69)).alloc (.cells #[.bool t,.slice B ys.length d] 69)):=((Gro.refl w).alloc _).alloc _;have HB:=Hh hB;have H1:=Hh (h.below HB.out.b);have H2:=Hh (k.below HB.out.b);obtain⟨z,hz⟩:∃z,z=ordI (ival s xs) (ival t ys):=⟨_,rfl⟩;rw[←hz];have HZ:=Hh hz;clear h k hB hz;cases s <;> cases t
 ·go_enter Tryz.func148,Tryz.ntmps148;go_wp2_with (go_at_call 182;refine(zqt _ _ _ _ xs ys _ H1.out H2.out (by omega) (by omega)).mono ?_;rintro e w1 ⟨rfl,b⟩;rw[zvb,←HZ.out]);go_ret;exact⟨rfl,HB.out.trans b⟩
 ·go_enter Tryz.func148,Tryz.ntmps148;go_wp2_with fail;go_ret;refine⟨zcH ?_,HB.out⟩;rw[HZ.out];have:=kc.2 rfl;have h2:val ys≠0:=fun e=>this (zbw kc.1 e);unfold ordI ival;simp only[if_true,Bool.false_eq_true,if_false];rw[if_neg (by omega),if_neg (by omega)]
 ·go_enter Tryz.func148,Tryz.ntmps148;go_wp2_with fail;go_ret;refine⟨zcH ?_,HB.out⟩;rw[HZ.out];have:=hc.2 rfl;have h2:val xs≠0:=fun e=>this (zbw hc.1 e);unfold ordI ival;simp only[if_true,Bool.false_eq_true,if_false];rw[if_pos (by omega)]
 ·go_enter Tryz.func148,Tryz.ntmps148;go_wp2_with (go_at_call 182;refine(zqt _ _ _ _ ys xs _ H2.out H1.out (by omega) (by omega)).mono ?_;rintro e w1 ⟨rfl,b⟩;rw[zva,←HZ.out]);go_ret;exact⟨rfl,HB.out.trans b⟩
end Go.Proofs.YtbabbmdpgpcgjaaGreatDoor

namespace Go.Proofs.YtbabbmdpgpcgjaaGreatDoor
open Go.RowKit Nds
def CvR (v:Cv):Prop:=zaC v.sx v.xs∧zaC v.sy v.ys∧v.xs.length≤60000∧v.ys.length≤60000
theorem zdj (v u:Cv)(w:World)(h:CvU w v)(k:CvU w u)(hr:CvR v)(kr:CvR u) :
  Calls Tryz.prog 135 #[cvv v,cvv u] w fun e w'=>e=.returned (.int .i64 (ordC v u))∧Gro w w':=by
 have hv1:=h.1.cap;have hv2:=h.2.1.cap;have hu1:=k.1.cap;have hu2:=k.2.1.cap;obtain⟨W,hW⟩:∃W:World,W=(w.alloc (.cells #[.bool v.sx,.slice v.ax v.xs.length v.cx,.bool v.sy,.slice v.ay v.ys.length v.cy,.int .u8 v.st] 123)).alloc (.cells #[.bool u.sx,.slice u.ax u.xs.length u.cx,.bool u.sy,.slice u.ay u.ys.length u.cy,.int .u8 u.st] 123):=⟨_,rfl⟩;have hg:Gro w W:=by rw[hW];exact((Gro.refl w).alloc _).alloc _
 have HG:=Hh hg;have HV:=Hh (h.below hg.b);have HU:=Hh (k.below hg.b);have hbx:CvAt W w.heap.size 0 v:=by
  rw[hW];exact(CvAt.new w v _).below (Below.heap_alloc _ _ _ (by simp))
 have hby:CvAt W (w.heap.size+1) 0 u:=by
  rw[hW];have h1:=CvAt.new (w.alloc (.cells #[.bool v.sx,.slice v.ax v.xs.length v.cx,.bool v.sy,.slice v.ay v.ys.length v.cy,.int .u8 v.st] 123)) u 123
  rwa [show(w.alloc (.cells #[.bool v.sx,.slice v.ax v.xs.length v.cx,.bool v.sy,.slice v.ay v.ys.length v.cy,.int .u8 v.st] 123)).heap.size=w.heap.size+1 by simp] at h1
 have HBX:=Hh hbx;have HBY:=Hh hby;have HLT:=Hh (show w.heap.size+1<W.heap.size by rw[hW];simp);have HVR:=Hh hr;have HUR:=Hh kr;have q0:True:=trivial;obtain⟨R,hR⟩:∃R,R=ordC v u:=⟨_,rfl⟩;rw[←hR];have HR:=Hh hR;have HW:=Hh hW;by_cases hy:ordI (ival v.sy v.ys) (ival u.sy u.ys)=0
 ·have HY:=Hh hy;clear h k hg hbx hby hW hR hy hr kr;go_enter Tryz.func135,Tryz.ntmps135;go_wp2_with (first
   | (have _t:=q0;go_at_call 148;clear _t;go_loud (rw[←HW.out];refine(zeT _ _ _ _ _ _ _ _ _ HV.out.2.1 HU.out.2.1 HVR.out.2.2.2 HUR.out.2.2.2 HVR.out.2.1 HUR.out.2.1).mono ?_;rintro e w1 ⟨rfl,b1⟩;rw[HY.out];have HB1:=Hh b1;have HV1:=Hh (HV.out.below b1.b);have HU1:=Hh (HU.out.below b1.b);obtain⟨c1,c2,-,-,-⟩:=HBX.out.below (b1.b.block w.heap.size (by have:=HLT.out;omega));obtain⟨d1,d2,-,-,-⟩:=HBY.out.below (b1.b.block (w.heap.size+1) HLT.out);clear b1;have q1:=q0;clear q0))
   | (have _t:=q1;go_at_call 148;clear _t;go_loud (refine(zeT _ _ _ _ _ _ _ _ _ HV1.out.1 HU1.out.1 HVR.out.2.2.1 HUR.out.2.2.1 HVR.out.1 HUR.out.1).mono ?_;rintro e w2 ⟨rfl,b2⟩;have HB2:=Hh b2;clear b2;have q2:=q1;clear q1)))
  go_ret;refine⟨?_,HG.out.trans (HB1.out.trans HB2.out)⟩;rw[HR.out];unfold ordC;rw[if_pos HY.out];rfl
 ·obtain⟨r,hr'⟩:∃r,r=ordI (ival v.sy v.ys) (ival u.sy u.ys):=⟨_,rfl⟩;rw[←hr'] at hy;have HRY:=Hh hr';have HNE:=Hh hy;have t1:(r != 0)=true:=by rw[bne_iff_ne];exact hy
  clear h k hg hbx hby hW hR hy hr' hr kr;go_enter Tryz.func135,Tryz.ntmps135;go_wp2_with (go_at_call 148;go_loud (rw[←HW.out];refine(zeT _ _ _ _ _ _ _ _ _ HV.out.2.1 HU.out.2.1 HVR.out.2.2.2 HUR.out.2.2.2 HVR.out.2.1 HUR.out.2.1).mono ?_;rintro e w1 ⟨rfl,b1⟩;rw[←HRY.out];have HB1:=Hh b1;clear b1));go_ret;refine⟨?_,HG.out.trans HB1.out⟩;rw[HR.out];unfold ordC;rw[←HRY.out,if_neg HNE.out];rfl
end Go.Proofs.YtbabbmdpgpcgjaaGreatDoor

namespace Go.Proofs.YtbabbmdpgpcgjaaGreatDoor
open Go.RowKit Nds Num
theorem zgi (s:Bool)(A:Option Addr)(c:Nat)(xs:List Nat)(i:Nat)(w:World)(h:Us w A c xs)(hl:xs.length≤60000) :
  Calls Tryz.prog 213 #[.agg #[.bool s,.slice A xs.length c],.int .i64 (i:Int)] w fun e w'=>e=.returned (.int .u32 (xs[i]?.getD 0:Nat))∧Gro w w':=by
 have hcap:=h.cap;obtain⟨x,hx⟩:∃x,x=xs[i]?.getD 0:=⟨_,rfl⟩;have hg:Gro w (w.alloc (.cells #[.bool s,.slice A xs.length c] 69)):=(Gro.refl w).alloc _;have hb:=hg.b;by_cases hlt:i<xs.length
 ·obtain⟨b,off,rfl,hbw,hc⟩:=h.at_ (by omega)
  have hck:=(hb.cell (p:=⟨b,off+i,none⟩) hbw).trans (hc i hlt);rw[←hx] at hck ⊢;have HG:=Hh hg;have i1:(i:Int)<(xs.length:Int):=by omega
  have i2:(0:Int)≤(i:Int):=by omega
  have i3:decide ((i:Int)<(xs.length:Int))=true:=decide_eq_true i1;clear hc h hx hg hb;go_enter Tryz.func213,Tryz.ntmps213;go_wp2;go_ret;exact⟨rfl,HG.out⟩
 ·rw[List.getElem?_eq_none (by omega)] at hx ⊢;have i3:decide ((i:Int)<(xs.length:Int))=false:=decide_eq_false (by omega);have HG:=Hh hg;clear h hx hg hb;go_enter Tryz.func213,Tryz.ntmps213;go_wp2;go_ret;exact⟨rfl,HG.out⟩
structure TwoB (w:World)(B:Nat)(x y:Bool × Option Addr × Nat × List Nat)(W:World):Prop where
 g:Gro w W
 lt:B+1<W.heap.size
 x0:W.cell? ⟨B,0,none⟩=some (.bool x.1)
 x1:W.cell? ⟨B,1,none⟩=some (.slice x.2.1 x.2.2.2.length x.2.2.1)
 y0:W.cell? ⟨B+1,0,none⟩=some (.bool y.1)
 y1:W.cell? ⟨B+1,1,none⟩=some (.slice y.2.1 y.2.2.2.length y.2.2.1)
 ux:Us W x.2.1 x.2.2.1 x.2.2.2
 uy:Us W y.2.1 y.2.2.1 y.2.2.2
theorem TwoB.next {w:World}{B:Nat}{x y:Bool × Option Addr × Nat × List Nat}{W W1:World}(h:TwoB w B x y W)(k:Gro W W1):TwoB w B x y W1 :=
 ⟨h.g.trans k,Nat.lt_of_lt_of_le h.lt k.b.size,(k.b.cell (p:=⟨B,0,none⟩) (by have:=h.lt;show B<_;omega)).trans h.x0,(k.b.cell (p:=⟨B,1,none⟩) (by have:=h.lt;show B<_;omega)).trans h.x1,
  (k.b.cell (p:=⟨B+1,0,none⟩) h.lt).trans h.y0,(k.b.cell (p:=⟨B+1,1,none⟩) h.lt).trans h.y1,h.ux.below k.b,h.uy.below k.b⟩
theorem TwoB.drew {w:World}{B:Nat}{x y:Bool × Option Addr × Nat × List Nat}{W:World}(h:TwoB w B x y W):TwoB w B x y W.drew:=h.next ((Gro.refl W).drewN 1)
theorem zgZ (s t_:Bool)(A B:Option Addr)(c d:Nat)(xs ys:List Nat)(w:World)(h:Us w A c xs)(k:Us w B d ys)(hl:xs.length≤60000)(kl:ys.length≤60000) :
  Calls Tryz.prog 177 #[.agg #[.bool s,.slice A xs.length c],.agg #[.bool t_,.slice B ys.length d]] w fun e w'=>e=.returned (.int .i64 (prtN (val xs) (val ys):Nat))∧Gro w w':=by
 have hcap:=h.cap;have kcap:=k.cap;have hdx:=h.1;have hdy:=k.1;obtain⟨W,hW⟩:∃W:World,W=(w.alloc (.cells #[.bool s,.slice A xs.length c] 69)).alloc (.cells #[.bool t_,.slice B ys.length d] 69):=⟨_,rfl⟩;have hg:Gro w W:=by rw[hW];exact((Gro.refl w).alloc _).alloc _
 have hP:TwoB w w.heap.size (s,A,c,xs) (t_,B,d,ys) W:=by
  obtain⟨e1,e2,_⟩:=box2 w (.bool s) (.slice A xs.length c) (.bool t_) (.slice B ys.length d) 69;rw[←hW] at e1 e2;exact⟨hg,by rw[hW];simp,e1.1,e1.2.1,e2.1,e2.2.1,h.below hg.b,k.below hg.b⟩
 obtain⟨R,hR⟩:∃R,R=prtN (val xs) (val ys):=⟨_,rfl⟩;rw[←hR];have HR:=Hh hR;have HW:=Hh hW;have HP:=Hh hP;have HD:=Hh (And.intro hdx hdy);clear h k hg hP hW hR hdx hdy;have q0:True:=trivial;go_enter Tryz.func177,Tryz.ntmps177;go_wp2_with fail;go_loopw [5] (fun i wr=>∃(k:Nat) (t:Int),TwoB w w.heap.size (s,A,c,xs) (t_,B,d,ys) wr∧t=(k:Int)-1∧k≤60000∧i=.int .i64 t∧∀j,k≤j→xs[j]?.getD 0=ys[j]?.getD 0)
  (fun i _=>(intOf i+1).toNat)
 case atStart =>
  refine⟨Nat.max xs.length ys.length,_,by rw[←HW.out];exact HP.out,rfl,Nat.max_le.2 ⟨hl,kl⟩,?_,fun j hj=>?_⟩
  ·congr 1;rw[show(Nat.max xs.length ys.length)=max xs.length ys.length from rfl];omega
  ·have h1:=Nat.le_trans (Nat.le_max_left xs.length ys.length) hj;have h2:=Nat.le_trans (Nat.le_max_right xs.length ys.length) hj;rw[List.getElem?_eq_none h1,List.getElem?_eq_none h2]
 case round =>
  obtain⟨k,t,hPr,ht,hk,rfl,hall⟩:=hrel;have HA:=Hh hall;clear hall;by_cases hp:0<k
  ·obtain⟨p,rfl⟩:∃p,k=p+1:=⟨k-1,by omega⟩;obtain rfl:t=(p:Int):=by omega
   clear ht hp;obtain⟨x,hx⟩:∃x,x=xs[p]?.getD 0:=⟨_,rfl⟩;obtain⟨y,hy⟩:∃y,y=ys[p]?.getD 0:=⟨_,rfl⟩;have hx9:x<4294967296:=by rw[hx];exact HD.out.1.getD _
   have hy9:y<4294967296:=by rw[hy];exact HD.out.2.getD _
   have HX:=Hh hx;have HY:=Hh hy;clear hx hy;have st:=hPr.drew;have c1:=hPr.x0;have c2:=hPr.x1;have c3:=hPr.y0;have c4:=hPr.y1;dsimp only at c1 c2 c3 c4;have HPR:=Hh hPr;clear hPr;have i2:(0:Int)≤(p:Int):=by omega
   have i1:decide ((p:Int)≥0)=true:=decide_eq_true (by omega);obtain⟨u,hu⟩:∃u,u=x ^^^ y:=⟨_,rfl⟩;have e0:bits .xor .u32 (x:Int) (y:Int)=(u:Int):=by rw[u32_xor_nat _ _ hx9 hy9,hu]
   have hu9:u<4294967296:=by rw[hu];exact Nat.xor_lt_two_pow (n:=32) hx9 hy9
   have hb9:blen u≤32:=(zdi u 32).2 hu9;have HU:=Hh hu;clear hu;go_wp2_with fail;go_region_with (first
    | (go_at_call_of 213 (Value.agg #[Value.bool s,Value.slice A xs.length c]);refine(zgi s A c xs p _ (TwoB.ux (w:=w) (B:=w.heap.size) (x:=(s,A,c,xs)) (y:=(t_,B,d,ys)) (by assumption)) hl).mono ?_;rintro e w1 ⟨rfl,b1⟩;rw[←HX.out];have st1:=TwoB.next (w:=w) (B:=w.heap.size) (x:=(s,A,c,xs)) (y:=(t_,B,d,ys)) (by assumption) b1;have k1:=st1.x0;have k2:=st1.x1;have k3:=st1.y0;have k4:=st1.y1;dsimp only at k1 k2 k3 k4)
    | (go_at_call_of 213 (Value.agg #[Value.bool t_,Value.slice B ys.length d]);refine(zgi t_ B d ys p _ (TwoB.uy (w:=w) (B:=w.heap.size) (x:=(s,A,c,xs)) (y:=(t_,B,d,ys)) (by assumption)) kl).mono ?_;rintro e w2 ⟨rfl,b2⟩;rw[←HY.out];have st2:=TwoB.next (w:=w) (B:=w.heap.size) (x:=(s,A,c,xs)) (y:=(t_,B,d,ys)) (by assumption) b2;have k1:=st2.x0;have k2:=st2.x1;have k3:=st2.y0;have k4:=st2.y1;dsimp only at k1 k2 k3 k4))
   all_goals

    by_cases he:u=0
    ·have hxy:x=y:=zji (HU.out.symm.trans he);subst he;go_wp2_with fail;go_roundw
     case rel =>
      refine⟨p,(p:Int)-1,by first|exact st1|exact st2,rfl,by omega,by go_num,fun j hj=>?_⟩;rcases Nat.lt_or_ge p j with h1|h1
      ·exact HA.out j h1
      ·rw[show j=p by omega,←HX.out,←HY.out,hxy]
     case measure=>simp[intOf] <;> omega
    ·have t1:((u:Int)!=0)=true:=by rw[bne_iff_ne];omega
     have HNE:=Hh he;clear he;go_wp2_with (go_at_call 198;refine(zps u _ hu9).mono ?_;rintro e w3 ⟨rfl,rfl⟩);go_ret;refine⟨zcH ?_,by first|exact st1.g|exact st2.g⟩;rw[HR.out,zqp HD.out.1 HD.out.2 (i:=p) (fun j hj=>HA.out j hj) (by rw[←HX.out,←HY.out];exact fun e=>HNE.out (by rw[HU.out,e,Nat.xor_self])),←HX.out,←HY.out,←HU.out];go_num
  ·obtain rfl:k=0:=by omega
   obtain rfl:t = -1:=by omega
   clear ht hp hk;have HPR:=Hh hPr;clear hPr;go_wp2_with fail;go_ret;refine⟨?_,HPR.out.g⟩;rw[HR.out,zqq HD.out.1 HD.out.2 (fun j=>HA.out j (Nat.zero_le _))];rfl
structure CS (w:World)(B:Nat)(v u:Cv)(W:World):Prop where
 g:Gro w W
 lt:B+1<W.heap.size
 bv:CvAt W B 0 v
 bu:CvAt W (B+1) 0 u
 uv:CvU W v
 uu:CvU W u
theorem CS.next {w:World}{B:Nat}{v u:Cv}{W W1:World}(h:CS w B v u W)(k:Gro W W1):CS w B v u W1 :=
 ⟨h.g.trans k,Nat.lt_of_lt_of_le h.lt k.b.size,h.bv.below (k.b.block _ (by have:=h.lt;omega)),h.bu.below (k.b.block _ h.lt),h.uv.below k.b,h.uu.below k.b⟩
theorem CS.new (w:World)(v u:Cv)(h:CvU w v)(k:CvU w u)(t:TypeId):CS w w.heap.size v u ((w.alloc (.cells #[.bool v.sx,.slice v.ax v.xs.length v.cx,.bool v.sy,.slice v.ay v.ys.length v.cy,.int .u8 v.st] t)).alloc (.cells #[.bool u.sx,.slice u.ax u.xs.length u.cx,.bool u.sy,.slice u.ay u.ys.length u.cy,.int .u8 u.st] t)):=by
 have hg:Gro w ((w.alloc (.cells #[.bool v.sx,.slice v.ax v.xs.length v.cx,.bool v.sy,.slice v.ay v.ys.length v.cy,.int .u8 v.st] t)).alloc (.cells #[.bool u.sx,.slice u.ax u.xs.length u.cx,.bool u.sy,.slice u.ay u.ys.length u.cy,.int .u8 u.st] t)):=((Gro.refl w).alloc _).alloc _;refine⟨hg,by simp,(CvAt.new w v _).below (Below.heap_alloc _ _ _ (by simp)),?_,h.below hg.b,k.below hg.b⟩;have h1:=CvAt.new (w.alloc (.cells #[.bool v.sx,.slice v.ax v.xs.length v.cx,.bool v.sy,.slice v.ay v.ys.length v.cy,.int .u8 v.st] t)) u t
 rwa [show(w.alloc (.cells #[.bool v.sx,.slice v.ax v.xs.length v.cx,.bool v.sy,.slice v.ay v.ys.length v.cy,.int .u8 v.st] t)).heap.size=w.heap.size+1 by simp] at h1
def cfQ (v u:Cv):Int:=if prtN (val v.ys) (val u.ys)<prtN (val v.xs) (val u.xs) then ordI (ival v.sx v.xs) (ival u.sx u.xs) else ordI (ival v.sy v.ys) (ival u.sy u.ys)
theorem zkq {xs ys:List Nat}(hx:Dig xs)(hy:Dig ys)(hl:xs.length≤60000)(kl:ys.length≤60000):prtN (val xs) (val ys)≤1920000:=by
 unfold prtN;rw[zdi];obtain⟨M,hM⟩:∃M,M=1920000:=⟨_,rfl⟩;rw[←hM];have up:∀{zs:List Nat},Dig zs→zs.length≤60000→val zs<2^M:=fun {zs} hd hz=>by
  refine Nat.lt_of_lt_of_le (zcl hd) ?_;rw[show(4294967296:Nat)=2^32 by decide,←Nat.pow_mul];exact Nat.pow_le_pow_right (by decide) (by omega)
 exact Nat.xor_lt_two_pow (up hx hl) (up hy kl)
theorem zjj (v u:Cv)(w:World)(h:CvU w v)(k:CvU w u)(hr:CvR v)(kr:CvR u) :
  Calls Tryz.prog 143 #[cvv v,cvv u] w fun e w'=>e=.returned (.int .i64 (cfQ v u))∧Gro w w':=by
 have hv1:=h.1.cap;have hv2:=h.2.1.cap;have hu1:=k.1.cap;have hu2:=k.2.1.cap;obtain⟨W,hW⟩:∃W:World,W=(w.alloc (.cells #[.bool v.sx,.slice v.ax v.xs.length v.cx,.bool v.sy,.slice v.ay v.ys.length v.cy,.int .u8 v.st] 123)).alloc (.cells #[.bool u.sx,.slice u.ax u.xs.length u.cx,.bool u.sy,.slice u.ay u.ys.length u.cy,.int .u8 u.st] 123):=⟨_,rfl⟩;have hC:CS w w.heap.size v u W:=by rw[hW];exact CS.new w v u h k _
 have HC:=Hh hC;have HVR:=Hh hr;have HUR:=Hh kr;have b1:=zkq h.1.1 k.1.1 hr.2.2.1 kr.2.2.1;have b2:=zkq h.2.1.1 k.2.1.1 hr.2.2.2 kr.2.2.2;obtain⟨m,hm⟩:∃m,m=prtN (val v.xs) (val u.xs):=⟨_,rfl⟩;obtain⟨n,hn⟩:∃n,n=prtN (val v.ys) (val u.ys):=⟨_,rfl⟩;rw[←hm] at b1;rw[←hn] at b2;have HM:=Hh hm;have HN:=Hh hn;have HW:=Hh hW;obtain⟨R,hR⟩:∃R,R=cfQ v u:=⟨_,rfl⟩;rw[←hR];have HR:=Hh hR;clear h k hC hr kr hm hn hW hR;have st:=HC.out.next ((Gro.refl W).drewN 1);obtain⟨c1,c2,c3,c4,-⟩:=st.bv;obtain⟨d1,d2,d3,d4,-⟩:=st.bu;have ST:=Hh st;have q0:True:=trivial;rw[HW.out] at st c1 c2 c3 c4 d1 d2 d3 d4;go_enter Tryz.func143,Tryz.ntmps143;go_wp2_with fail;go_region_held3 (fun w'=>(w'.cell? ⟨w.heap.size,0,none⟩=some (.bool v.sx)∧w'.cell? ⟨w.heap.size,1,none⟩=some (.slice v.ax v.xs.length v.cx)∧w'.cell? ⟨w.heap.size,2,none⟩=some (.bool v.sy)∧w'.cell? ⟨w.heap.size,3,none⟩=some (.slice v.ay v.ys.length v.cy)) ∧
   (w'.cell? ⟨w.heap.size+1,0,none⟩=some (.bool u.sx)∧w'.cell? ⟨w.heap.size+1,1,none⟩=some (.slice u.ax u.xs.length u.cx)∧w'.cell? ⟨w.heap.size+1,2,none⟩=some (.bool u.sy)∧w'.cell? ⟨w.heap.size+1,3,none⟩=some (.slice u.ay u.ys.length u.cy)))
  (first|go_keep|exact⟨⟨k1,k2,k3,k4⟩,⟨l1,l2,l3,l4⟩⟩)
  (first
  | (go_at_call_of 177 (Value.agg #[Value.bool v.sx,Value.slice v.ax v.xs.length v.cx]);refine(zgZ _ _ _ _ _ _ _ _ _ (CS.uv (w:=w) (B:=w.heap.size) (v:=v) (u:=u) (by assumption)).1 (CS.uu (w:=w) (B:=w.heap.size) (v:=v) (u:=u) (by assumption)).1 HVR.out.2.2.1 HUR.out.2.2.1).mono ?_;rintro e w1 ⟨rfl,g1⟩;rw[←HM.out];have st1:=CS.next (w:=w) (B:=w.heap.size) (v:=v) (u:=u) (by assumption) g1;obtain⟨k1,k2,k3,k4,-⟩:=st1.bv;obtain⟨l1,l2,l3,l4,-⟩:=st1.bu)
  | (go_at_call_of 177 (Value.agg #[Value.bool v.sy,Value.slice v.ay v.ys.length v.cy]);refine(zgZ _ _ _ _ _ _ _ _ _ (CS.uv (w:=w) (B:=w.heap.size) (v:=v) (u:=u) (by assumption)).2.1 (CS.uu (w:=w) (B:=w.heap.size) (v:=v) (u:=u) (by assumption)).2.1 HVR.out.2.2.2 HUR.out.2.2.2).mono ?_;rintro e w2 ⟨rfl,g2⟩;rw[←HN.out];have st2:=CS.next (w:=w) (B:=w.heap.size) (v:=v) (u:=u) (by assumption) g2;obtain⟨k1,k2,k3,k4,-⟩:=st2.bv;obtain⟨l1,l2,l3,l4,-⟩:=st2.bu))
 all_goals
  by_cases hc:n<m
  ·have t1:decide ((m:Int)>(n:Int))=true:=decide_eq_true (by omega);have HCc:=Hh hc;clear hc;go_wp2_with (go_at_call 148;refine(zeT _ _ _ _ _ _ _ _ _ (CS.uv (w:=w) (B:=w.heap.size) (v:=v) (u:=u) (by first|exact st2|exact st1)).1 (CS.uu (w:=w) (B:=w.heap.size) (v:=v) (u:=u) (by first|exact st2|exact st1)).1 HVR.out.2.2.1 HUR.out.2.2.1 HVR.out.1 HUR.out.1).mono ?_;rintro e w3 ⟨rfl,g3⟩);go_ret;refine⟨?_,by first|exact(CS.next st2 g3).g|exact(CS.next st1 g3).g⟩;rw[HR.out];unfold cfQ;rw[←HM.out,←HN.out,if_pos HCc.out];rfl
  ·have t1:decide ((m:Int)>(n:Int))=false:=decide_eq_false (by omega);have HCc:=Hh hc;clear hc;go_wp2_with (go_at_call 148;refine(zeT _ _ _ _ _ _ _ _ _ (CS.uv (w:=w) (B:=w.heap.size) (v:=v) (u:=u) (by first|exact st2|exact st1)).2.1 (CS.uu (w:=w) (B:=w.heap.size) (v:=v) (u:=u) (by first|exact st2|exact st1)).2.1 HVR.out.2.2.2 HUR.out.2.2.2 HVR.out.2.1 HUR.out.2.1).mono ?_;rintro e w3 ⟨rfl,g3⟩);go_ret;refine⟨?_,by first|exact(CS.next st2 g3).g|exact(CS.next st1 g3).g⟩;rw[HR.out];unfold cfQ;rw[←HM.out,←HN.out,if_neg HCc.out];rfl
def quaC (v:Cv)(m:Nat):Nat:=qtr m (val v.xs) (val v.ys)
theorem znn {xs:List Nat}(hd:Dig xs)(m:Nat):xs[m / 32]?.getD 0 / 2^(m%32)%2=val xs / 2^m%2:=by
 have h1:=zbf hd m;rw[Nat.testBit_eq_decide_div_mod_eq,Nat.testBit_eq_decide_div_mod_eq] at h1;have h2:val xs / 2^m%2=1↔xs[m / 32]?.getD 0 / 2^(m%32)%2=1:=by
  constructor
  ·intro h;rw[decide_eq_true h] at h1;exact of_decide_eq_true h1.symm
  ·intro h;rw[decide_eq_true h] at h1;exact of_decide_eq_true h1
 omega
structure C1 (w:World)(v:Cv)(W:World):Prop where
 g:Gro w W
 lt:w.heap.size<W.heap.size
 bv:CvAt W w.heap.size 0 v
 uv:CvU W v
theorem C1.next {w:World}{v:Cv}{W W1:World}(h:C1 w v W)(k:Gro W W1):C1 w v W1 :=
 ⟨h.g.trans k,Nat.lt_of_lt_of_le h.lt k.b.size,h.bv.below (k.b.block _ h.lt),h.uv.below k.b⟩
theorem zwc {x y p:Nat}(hx:x<4294967296)(hy:y<4294967296) :
  IntKind.i64.wrap (bits .or .u32 (bits .and .u32 ((x:Int) / 2^p) 1) (IntKind.u32.wrap (bits .and .u32 ((y:Int) / 2^p) 1*2)))=((x / 2^p%2+2*(y / 2^p%2):Nat):Int):=by
 have e1:((x:Int) / 2^p)=((x / 2^p:Nat):Int):=by simp
 have e2:((y:Int) / 2^p)=((y / 2^p:Nat):Int):=by simp
 have h1:x / 2^p<4294967296:=Nat.lt_of_le_of_lt (Nat.div_le_self _ _) hx;have h2:y / 2^p<4294967296:=Nat.lt_of_le_of_lt (Nat.div_le_self _ _) hy;obtain⟨a,ha⟩:∃a,a=x / 2^p%2:=⟨_,rfl⟩;obtain⟨b,hb⟩:∃b,b=y / 2^p%2:=⟨_,rfl⟩;rw[e1,e2,show(1:Int)=((1:Nat):Int) from rfl,u32_and_nat _ _ h1 (by decide),u32_and_nat _ _ h2 (by decide),Nat.and_one_is_mod,Nat.and_one_is_mod,←ha,←hb];have ha2:a<2:=by omega
 have hb2:b<2:=by omega
 clear ha hb e1 e2 h1 h2 hx hy;obtain rfl|rfl:a=0∨a=1:=by omega
 all_goals obtain rfl|rfl:b=0∨b=1:=by omega
 all_goals rfl
theorem zha (v:Cv)(m:Nat)(w:World)(h:CvU w v)(h1:v.xs.length≤60000)(h2:v.ys.length≤60000)(hm:m≤100000) :
  Calls Tryz.prog 178 #[cvv v,.int .i64 ((m:Int)+1)] w fun e w'=>e=.returned (.int .i64 (quaC v m:Nat))∧Gro w w':=by
 have hv1:=h.1.cap;have hv2:=h.2.1.cap;have hd1:=h.1.1;have hd2:=h.2.1.1;obtain⟨W,hW⟩:∃W:World,W=w.alloc (.cells #[.bool v.sx,.slice v.ax v.xs.length v.cx,.bool v.sy,.slice v.ay v.ys.length v.cy,.int .u8 v.st] 123):=⟨_,rfl⟩;have hg:Gro w W:=by rw[hW];exact(Gro.refl w).alloc _
 have hC:C1 w v W:=⟨hg,by rw[hW];simp,by rw[hW];exact CvAt.new w v _,h.below hg.b⟩;obtain⟨q,hq⟩:∃q,q=m / 32:=⟨_,rfl⟩;obtain⟨p,hp⟩:∃p,p=m%32:=⟨_,rfl⟩;have hp9:p<32:=by omega
 have e1:(m:Int) / 32=(q:Int):=by omega
 have e2:(m:Int)%32=(p:Int):=by omega
 obtain⟨x,hx⟩:∃x,x=v.xs[q]?.getD 0:=⟨_,rfl⟩;obtain⟨y,hy⟩:∃y,y=v.ys[q]?.getD 0:=⟨_,rfl⟩;have hx9:x<4294967296:=by rw[hx];exact hd1.getD _
 have hy9:y<4294967296:=by rw[hy];exact hd2.getD _
 have hR:quaC v m=x / 2^p%2+2*(y / 2^p%2):=by
  unfold quaC qtr;rw[←znn hd1,←znn hd2,hx,hy,hq,hp]
 obtain⟨R,hRR⟩:∃R,R=quaC v m:=⟨_,rfl⟩;rw[←hRR] at hR ⊢;have HR:=Hh hR;have HW:=Hh hW;have HX:=Hh hx;have HY:=Hh hy;have HQ:=Hh hq;have HPp:=Hh hp;have st:=hC.next ((Gro.refl W).drewN 1);obtain⟨c1,c2,c3,c4,-⟩:=st.bv;clear h hg hC hq hp hx hy hR hRR;rw[HW.out] at st c1 c2 c3 c4;clear hW;go_enter Tryz.func178,Tryz.ntmps178;go_wp2_with fail;go_region_held3 (fun w'=>w'.cell? ⟨w.heap.size,0,none⟩=some (.bool v.sx)∧w'.cell? ⟨w.heap.size,1,none⟩=some (.slice v.ax v.xs.length v.cx)∧w'.cell? ⟨w.heap.size,2,none⟩=some (.bool v.sy)∧w'.cell? ⟨w.heap.size,3,none⟩=some (.slice v.ay v.ys.length v.cy))
  (first|go_keep|exact⟨k1,k2,k3,k4⟩)
  (first
  | (go_at_call_of 213 (Value.agg #[Value.bool v.sx,Value.slice v.ax v.xs.length v.cx]);refine(zgi _ _ _ _ q _ (C1.uv (w:=w) (v:=v) (by assumption)).1 h1).mono ?_;rintro e w1 ⟨rfl,g1⟩;rw[←HX.out];have st1:=C1.next (w:=w) (v:=v) (by assumption) g1;obtain⟨k1,k2,k3,k4,-⟩:=st1.bv)
  | (go_at_call_of 213 (Value.agg #[Value.bool v.sy,Value.slice v.ay v.ys.length v.cy]);refine(zgi _ _ _ _ q _ (C1.uv (w:=w) (v:=v) (by assumption)).2.1 h2).mono ?_;rintro e w2 ⟨rfl,g2⟩;rw[←HY.out];have st2:=C1.next (w:=w) (v:=v) (by assumption) g2;obtain⟨k1,k2,k3,k4,-⟩:=st2.bv))
 all_goals
  go_wp2_with fail;go_ret;refine⟨zcH ?_,by first|exact st2.g|exact st1.g⟩;rw[HR.out];exact zwc hx9 hy9
end Go.Proofs.YtbabbmdpgpcgjaaGreatDoor

namespace Go.Proofs.YtbabbmdpgpcgjaaGreatDoor
open Go.RowKit Nds Num Go.Sort
theorem zjk {W w':World}(h:Gro W w'):∃q os',w'=grow (W.drewN q) os':=by
 refine⟨w'.drawn-W.drawn,w'.heap.extract W.heap.size w'.heap.size,?_⟩;have hd:=h.d;obtain⟨e1,e2,e3,e4,e5⟩:=h.b;have eh:w'.heap=W.heap++w'.heap.extract W.heap.size w'.heap.size:=by
  apply Array.ext_getElem?;intro k;rw[Array.getElem?_append];by_cases hk:k<W.heap.size
  ·rw[if_pos hk];exact e5 k hk
  ·rw[if_neg hk,Array.getElem?_extract];by_cases hk2:k<w'.heap.size
   ·rw[if_pos (by omega),show W.heap.size+(k-W.heap.size)=k by omega]
   ·rw[if_neg (by omega),Array.getElem?_eq_none (by omega)]
 obtain⟨h',t',d',o',p'⟩:=w';obtain⟨h0,t0,d0,o0,p0⟩:=W;simp only at e1 e2 e3 eh hd;subst e1 e2 e3;show World.mk h' t' d' o' p'=World.mk (h0++h'.extract h0.size h'.size) t' (d0+(d'-d0)) o' p';rw[←eh,Nat.add_sub_cancel' hd]
def encC (v:Cv):List Value:=[.bool v.sx,.slice v.ax v.xs.length v.cx,.bool v.sy,.slice v.ay v.ys.length v.cy,.int .u8 v.st]
def Off (blk:Nat)(v:Cv):Prop:=(0<v.xs.length→∀a,v.ax=some a→a.block≠blk)∧(0<v.ys.length→∀a,v.ay=some a→a.block≠blk)
abbrev SC (w:World)(blk:Nat)(P:Cv→Prop):Type:={ v:Cv // CvU w v∧CvR v∧P v∧Off blk v }
theorem zbt {w w':World}{blk:Nat}{A:Option Addr}{c:Nat}{xs:List Nat}(h:Us w A c xs)(hk:∀k,k<w.heap.size→k≠blk→w'.heap[k]?=w.heap[k]?)(hs:w.heap.size≤w'.heap.size)(ha:0<xs.length→∀a,A=some a→a.block≠blk):Us w' A c xs:=by
 obtain⟨h1,h2,h3,h4⟩:=h;refine⟨h1,h2,h3,fun hn=>?_⟩;obtain⟨b,off,e,hb,hc⟩:=h4 hn;have hne:b≠blk:=ha (by simpa using hn) _ e;exact⟨b,off,e,Nat.lt_of_lt_of_le hb hs,fun j u hu=>(World.cell?_of_block (a:=⟨b,off+j,none⟩) (hk b hb hne)).trans (hc j u hu)⟩
theorem zdk {w w':World}{blk:Nat}{v:Cv}(h:CvU w v)(hk:∀k,k<w.heap.size→k≠blk→w'.heap[k]?=w.heap[k]?)(hs:w.heap.size≤w'.heap.size)(ho:Off blk v):CvU w' v :=
 ⟨zbt h.1 hk hs ho.1,zbt h.2.1 hk hs ho.2,h.2.2⟩
theorem zqu {w:World}{A:Option Addr}{c:Nat}{xs:List Nat}(h:Us w A c xs)(hx:0<xs.length):∀a,A=some a→a.block<w.heap.size:=fun a e=>by
 obtain⟨b,off,e',hb,_⟩:=h.at_ hx
 rw[e] at e';cases e';exact hb
theorem zxH {w:World}{v:Cv}{blk:Nat}(h:CvU w v)(hb:w.heap.size≤blk):Off blk v :=
 ⟨fun hx a e=>by have:=zqu h.1 hx a e;omega,fun hx a e=>by have:=zqu h.2.1 hx a e;omega⟩
theorem gbN {w w':World}(h:Below w.heap.size w w'):w.grownBy w' none:=⟨h.os,h.tape,h.output,h.size,fun k hk _=>h.block k hk⟩
theorem ztu (w:World)(blk:Nat)(d:Array Value)(off:Nat):(putRow id w blk off d).heap.size=w.heap.size∧∀k,k≠blk→(putRow id w blk off d).heap[k]?=w.heap[k]?:=by
 unfold putRow mapBlock;refine⟨by simp,fun k hk=>?_⟩;simp only[Array.getElem?_modify];rw[if_neg (by omega)]
theorem zhb {α:Type}[Inhabited α](enc:α→List Value)(k:Nat)(w:World)(blk off m:Nat)(dk:Array α)(os:Array Obj):w.grownBy (sortWorldK enc k w blk off m dk os) (some blk):=by
 have hp:=ztu (Sort.ahead w m) blk (flatK enc k dk) off;have hs:(putRowK enc k (Sort.ahead w m) blk off dk).heap.size=w.heap.size:=hp.1;refine⟨rfl,rfl,rfl,?_,fun j hj hne=>?_⟩
 ·unfold sortWorldK;rw[size_grow,hs];omega
 ·show((putRowK enc k (Sort.ahead w m) blk off dk).heap++os)[j]?=_;rw[Array.getElem?_append,if_pos (by rw[hs];exact hj)];exact hp.2 j (fun e=>hne (by rw[e]))
theorem zno (v:Cv):∀x∈encC v,x.oneCell'=true:=by
 intro x hx;simp only[encC,List.mem_cons,List.not_mem_nil,or_false] at hx;rcases hx with rfl|rfl|rfl|rfl|rfl <;> rfl
theorem zcr {l:List Cv}{i:Nat}(h:i<l.length):cat l i=l[i]:=by
 unfold cat;rw[List.getElem?_eq_getElem h];rfl
theorem zqv (g:Nat)(cf:Cv→Cv→Int)(P:Cv→Prop)(eg:∀args w,(callFunc g args).run Tryz.prog w=.ok (.enter g args) w)
  (hcf:∀(v u:Cv) (W:World),CvU W v→CvU W u→CvR v→CvR u→P v→P u→Calls Tryz.prog g #[cvv v,cvv u] W fun e w'=>e=.returned (.int .i64 (cf v u))∧Gro W w')
  (hO:∀{v u t:Cv},P v→P u→P t→¬ cf v v<0∧(cf v u<0→cf u t<0→cf v t<0)∧(¬ cf v u<0→¬ cf u t<0→¬ cf v t<0))
  (blk n cap:Nat) (l:List Cv) (w:World) (hl:l.length=n) (hn:0<n) (hn9:n≤1000000) (hb:blk<w.heap.size)
  (hc:∀i,i<n→CvAt w blk (i*5) (cat l i)) (hf:∀o,w.frozen? ⟨blk,o,none⟩=false)
  (ha:∀v∈l,CvU w v∧CvR v∧P v∧Off blk v) :
  Calls Tryz.prog 142 #[.slice (some ⟨blk,0,none⟩) n cap,.func (.func g) #[] #[]] w fun e w' =>
   e=.returned (.tuple #[])∧∃l':List Cv,l'.Perm l∧l'.Pairwise (fun a b=>¬ cf b a<0)∧(∀i,i<n→CvAt w' blk (i*5) (cat l' i))∧w.grownBy w' (some blk):=by
 obtain⟨L,hL⟩:∃L:List (SC w blk P),L=l.pmap (fun v h=>⟨v,h⟩) ha:=⟨_,rfl⟩;have hmap0:L.map Subtype.val=l:=by rw[hL,List.map_pmap];simp
 have hLl:L.length=n:=by rw[←hl,←hmap0,List.length_map]
 letI:Inhabited (SC w blk P):=⟨L[0]'(by omega)⟩
 obtain⟨d,hdd⟩:∃d:Array (SC w blk P),d=L.toArray:=⟨_,rfl⟩;have hds:d.size=n:=by rw[hdd,List.size_toArray,hLl]
 obtain⟨enc,henc⟩:∃enc:SC w blk P→List Value,enc=fun v=>encC v.1:=⟨_,rfl⟩;have hval:∀i (h:i<n),(d[i]!).1=cat l i:=fun i h=>by
  subst hdd;rw[getElem!_pos _ i (by rw[List.size_toArray];omega),zcr (by omega)];simp only[List.getElem_toArray,←hmap0,List.getElem_map]
 have hH:HoldsK enc 5 w blk 0 d:=by
  intro j hj;rw[size_flatK,hds] at hj;rw[get_flatK enc 5 d j (by rw[hds];exact hj)];obtain⟨i,c,rfl,hc5⟩:∃i c,j=i*5+c∧c<5:=⟨j / 5,j%5,by omega,by omega⟩;have hi:i<n:=by omega
  rw[show(i*5+c) / 5=i by omega,show(i*5+c)%5=c by omega,Nat.zero_add];refine⟨?_,hf _⟩;subst henc;show _=some (encC (d[i]!).1)[c]!;rw[hval i hi];obtain⟨h0,h1,h2,h3,h4⟩:=hc i hi
  match c,hc5 with
  | 0,_=>exact h0
  | 1,_=>exact h1
  | 2,_=>exact h2
  | 3,_=>exact h3
  | 4,_=>exact h4
 have hcmp:CmpLays Tryz.prog g #[] enc 5 (fun v u:SC w blk P=>cf v.1 u.1) blk 0 d.size w:=by
  intro m os dk hdk v u;have hg:=zhb enc 5 w blk 0 m dk os;have hk:∀k,k<w.heap.size→k≠blk→(sortWorldK enc 5 w blk 0 m dk os).heap[k]?=w.heap[k]?:=fun k h1 h2=>hg.block k h1 (fun e=>h2 (by cases e;rfl));have h:=hcf v.1 u.1 (sortWorldK enc 5 w blk 0 m dk os) (zdk v.2.1 hk hg.size v.2.2.2.2) (zdk u.2.1 hk hg.size u.2.2.2.2) v.2.2.1 u.2.2.1 v.2.2.2.1 u.2.2.2.1;have e0:#[Value.agg (enc v).toArray,Value.agg (enc u).toArray]++(#[]:Array Value)=#[cvv v.1,cvv u.1]:=by rw[henc];rfl
  rw[e0];exact h.mono fun e w' ⟨he,hG⟩=>⟨he,zjk hG⟩
 have hS:SWO (ltOf fun v u:SC w blk P=>cf v.1 u.1):=by
  refine⟨fun x=>?_,fun x y z h1 h2=>?_,fun x y z h1 h2=>?_⟩
  ·exact decide_eq_false (hO x.2.2.2.1 x.2.2.2.1 x.2.2.2.1).1
  ·exact decide_eq_true ((hO x.2.2.2.1 y.2.2.2.1 z.2.2.2.1).2.1 (of_decide_eq_true h1) (of_decide_eq_true h2))
  ·exact decide_eq_false ((hO x.2.2.2.1 y.2.2.2.1 z.2.2.2.1).2.2 (of_decide_eq_false h1) (of_decide_eq_false h2))
 have hcon:=AnyQ.slices_SortFunc Tryz.sortC 5 Tryz.isAgg123 Tryz.sizeOf123 enc (fun v=>by rw[henc];rfl) (fun v=>by rw[henc];exact zno v.1) (fun v u:SC w blk P=>cf v.1 u.1) hS g #[] blk 0 cap d w eg hcmp hH hb (by omega);rw[hds] at hcon;change Calls Tryz.prog 142 _ _ _ at hcon;refine hcon.mono ?_;rintro e w' ⟨rfl,d',m,os,hp,hs,rfl⟩;obtain⟨hsz,-,hperm⟩:=hp;have hd':d'.size=n:=by rw[hsz,hds]
 have e1:d'.extract 0 n=d':=by rw[←hd'];exact Array.extract_size
 have e2:d.extract 0 n=d:=by rw[←hds];exact Array.extract_size
 rw[e1,e2] at hperm;have hmap:d.toList.map Subtype.val=l:=by rw[hdd,List.toList_toArray,hmap0]
 have hval':∀i (h:i<n),cat (d'.toList.map Subtype.val) i=(d'[i]!).1:=fun i h=>by
  rw[zcr (by rw[List.length_map,Array.length_toList];omega),getElem!_pos d' i (by omega),List.getElem_map,Array.getElem_toList]
 refine⟨rfl,d'.toList.map Subtype.val,?_,?_,?_,zhb enc 5 w blk 0 m d' os⟩
 ·have:=hperm.map Subtype.val
  rwa [hmap] at this
 ·refine List.pairwise_map.2 (List.pairwise_iff_getElem.2 fun i j hi hj hij=>?_);have hi':i<d'.size:=by rwa [Array.length_toList] at hi
  have hj':j<d'.size:=by rwa [Array.length_toList] at hj
  have h:=hs i j (Nat.zero_le _) hij (by omega);rw[Array.getElem_toList,Array.getElem_toList];rw[getElem!_pos d' i hi',getElem!_pos d' j hj'] at h;exact of_decide_eq_false h
 ·intro i hi;rw[hval' i hi];have hh:=holdsK_sortWorldK_c enc 5 w blk 0 d d' m os hH hb (by rw[hsz]);have cell:∀c,c<5→(sortWorldK enc 5 w blk 0 m d' os).cell? ⟨blk,i*5+c,none⟩=some (encC (d'[i]!).1)[c]! := fun c h5=>by
   have:=(HoldsK.cell (c:=c) hh (show i<d'.size by omega) h5).1;rw[Nat.zero_add,henc] at this;rw[henc];exact this
  exact⟨cell 0 (by decide),cell 1 (by decide),cell 2 (by decide),cell 3 (by decide),cell 4 (by decide)⟩
end Go.Proofs.YtbabbmdpgpcgjaaGreatDoor
