import Derived.Test.YtbabbmdpgpcgjaaGreatDoorHFtM
import Derived.Lib.AppendZerosOnto

set_option linter.unusedVariables false
set_option linter.unusedSimpArgs false
set_option maxRecDepth 100000
set_option maxHeartbeats 6400000
namespace Go.Proofs.YtbabbmdpgpcgjaaGreatDoor
open Go.RowKit Num Nds Txt
theorem zus {q:List Nd}(hq:zai q=true):zbT q≤255:=by
 suffices h:∀k,k≤q.length→zbT (q.take k)≤255 by
  have:=h q.length (Nat.le_refl _)
  rwa [List.take_length] at this
 intro k
 induction k with
 | zero=>exact fun _=>by show(0:Int)≤255;omega
 | succ k ih =>
  intro hk;rw[zhi (by omega)];have h1:=ih (by omega);split
  ·rename_i hv;have hf:=zaq hq (i:=k) (by omega);have g:∀i,i<4→(at_ q k).kid i≤255:=fun i hi=>by
    have:=zav hf hi;rw[hv] at this;unfold kidB at this;simp at this;omega
   have g0:=g 0 (by omega);have g1:=g 1 (by omega);have g2:=g 2 (by omega);have g3:=g 3 (by omega);have e:maxN (at_ q k)≤255:=by
    unfold maxN;have e0:(at_ q k).a≤255:=g0;have e1:(at_ q k).b≤255:=g1;have e2:(at_ q k).c≤255:=g2;have e3:(at_ q k).d≤255:=g3;omega
   omega
  ·exact h1
def two (L:List (List UInt8)):Prop:=∀r∈L,r.length≤1000∧∀x∈r,x.toNat≤1
theorem zwS {q:List Nd}{n:Nat}{most er X Y:Int}{L:List (List UInt8)}(hq:zai q=true)(hn:q.length=n)(hm:zbT q%256≤1)(g:GoI q n most er X Y L):two L∧L.length≤1000:=by
 subst hn;rcases g with⟨-,-,-,-,rfl⟩|⟨h0,ok,X',Y',V,H,b,h1⟩
 ·exact⟨fun r hr=>(by cases hr),Nat.zero_le _⟩
 ·rcases h1 with⟨-,-,-,-,rfl⟩|⟨h4,-,-,-,rfl⟩
  ·exact⟨fun r hr=>(by cases hr),Nat.zero_le _⟩
  ·refine⟨fun r hr=>?_,by rw[zcW];omega⟩;obtain⟨k,hk,rfl⟩:=List.mem_map.1 hr;refine⟨by rw[zbP];omega,fun x hx=>?_⟩;obtain⟨i,hi,rfl⟩:=List.mem_map.1 hx;have h5:=zus hq;have h6:=zlc q;have h7:=zrK q (X'+i) (Y'+k);have h8:picM (den q q.length) X' Y' k i=getQ q (X'+i) (Y'+k):=rfl;rw[h8,UInt8.toNat_ofNat'];omega
def GfI (f:Int)(s:ByteArray)(q:List Nd)(n:Nat)(box nodes er X Y:Int)(L:List (List UInt8)):Prop :=
 (er≠0∧CkI f s q n box nodes er∧X=0∧Y=0∧L=[])∨(er=0∧CkI f s q n box nodes 0∧GoI q n box 0 X Y L)
theorem zmo {f:Int}{s:ByteArray}{q:List Nd}{n:Nat}{box nodes:Int}(h:CkI f s q n box nodes 0):mayP s q=true∧zbF box nodes=true∧ExpP f q n box:=by
 have h1:(fmtB f&&(mayP s q&&zbF box nodes))=true:=by
  cases e:(fmtB f&&(mayP s q&&zbF box nodes)) with
  | true=>rfl
  | false=>have:=h.1 e;omega
 have h2:=h1;rw[Bool.and_eq_true,Bool.and_eq_true] at h2;rcases h.2 h1 with h3|h3
 ·exact⟨h2.2.1,h2.2.2,h3.2⟩
 ·omega
theorem zut {s:ByteArray}{q:List Nd}(h:mayP s q=true):zas q:=by
 unfold mayP at h;rw[Bool.and_eq_true] at h;exact ziA h.2
theorem zyj {f:Int}{s:ByteArray}{q:List Nd}{n:Nat}{box nodes er X Y:Int}{L:List (List UInt8)}(hf:f≠5)(h:CkI f s q n box nodes 0)(g:GoI q n box er X Y L):er=0:=by
 obtain⟨h1,h2,h3⟩:=zmo h;unfold zbF at h2;rw[decide_eq_true_iff] at h2;rcases h3 with h3|⟨⟨X2,Y2,V2,H2,ok2,b2,h4,h5⟩,-⟩
 ·exact absurd h3 hf
 ·rcases g with⟨h6,-⟩|⟨-,ok,X',Y',V,H,b,h6⟩
  ·omega
  ·obtain⟨-,-,-,rfl,rfl⟩:=b.one b2;rcases h6 with⟨h7,-⟩|⟨-,h7,-⟩
   ·omega
   ·exact h7
theorem GfI.one {f:Int}{s:ByteArray}{q:List Nd}{n:Nat}{box nodes er X Y er' X' Y':Int}{L L':List (List UInt8)}(h:GfI f s q n box nodes er X Y L)(k:GfI f s q n box nodes er' X' Y' L'):er=er'∧X=X'∧Y=Y'∧L=L':=by
 obtain⟨E,hE⟩:=zyb f s q n box nodes;rcases h with⟨h0,h1,rfl,rfl,rfl⟩|⟨rfl,h1,h2⟩
 ·have e1:=hE _ h1;rcases k with⟨k0,k1,rfl,rfl,rfl⟩|⟨rfl,k1,k2⟩
  ·exact⟨e1.trans (hE _ k1).symm,rfl,rfl,rfl⟩
  ·have e2:=hE _ k1;omega
 ·have e1:=hE _ h1;rcases k with⟨k0,k1,rfl,rfl,rfl⟩|⟨rfl,k1,k2⟩
  ·have e2:=hE _ k1;omega
  ·obtain⟨-,e3,e4,e5⟩:=h2.one k2;exact⟨rfl,e3,e4,e5⟩
structure Og (w:World)(A:Option Addr)(n c:Nat)(q:List Nd)(s:ByteArray)(box nodes:Int)(W:World):Prop where
 b:Below w.heap.size w W
 pk:W.heap[w.heap.size]?=some (.cells #[.string s,.slice A n c] 29)
 lk:W.heap[w.heap.size+1]?=some (.cells #[.int .i64 box,.int .i64 nodes] 23)
 ns:Ns W A c q
section
variable {w W W':World} {A:Option Addr} {n c:Nat} {q:List Nd} {s:ByteArray} {box nodes:Int}
theorem Og.next (h:Og w A n c q s box nodes W)(k:Below W.heap.size W W'):Og w A n c q s box nodes W' :=
 ⟨h.b.trans (k.mono h.b.size),(k.block _ (zab h.pk)).trans h.pk,(k.block _ (zab h.lk)).trans h.lk,h.ns.below k⟩
theorem Og.start (h:Ns w A c q):Og w A n c q s box nodes ((w.alloc (.cells #[.string s,.slice A n c] 29)).alloc (.cells #[.int .i64 box,.int .i64 nodes] 23)):=by
 have b1:=(Below.refl w.heap.size w).alloc (Nat.le_refl _) (.cells #[.string s,.slice A n c] 29);have b2:=b1.alloc b1.size (.cells #[.int .i64 box,.int .i64 nodes] 23);have x2:=heap_alloc_new (w.alloc (.cells #[.string s,.slice A n c] 29)) (.cells #[.int .i64 box,.int .i64 nodes] 23);rw[World.size_alloc] at x2;exact⟨b2,(((Below.refl _ _).alloc (Nat.le_refl _) _).block _ (by rw[World.size_alloc];omega)).trans (heap_alloc_new w _),x2,h.below b2⟩
theorem Og.cells (h:Og w A n c q s box nodes W):W.cell? ⟨w.heap.size,0,none⟩=some (.string s)∧W.cell? ⟨w.heap.size,1,none⟩=some (.slice A n c)∧W.cell? ⟨w.heap.size+1,0,none⟩=some (.int .i64 box)∧W.cell? ⟨w.heap.size+1,1,none⟩=some (.int .i64 nodes) :=
 ⟨(cell_of_row W _ 0 _ _ (0,0) h.pk).trans rfl,(cell_of_row W _ 1 _ _ (0,0) h.pk).trans rfl,(cell_of_row W _ 0 _ _ (0,0) h.lk).trans rfl,(cell_of_row W _ 1 _ _ (0,0) h.lk).trans rfl⟩
end
def FpI (s:ByteArray)(q:List Nd)(n:Nat)(box nodes er:Int)(T:List UInt8):Prop :=
 ∃(X Y:Int) (L:List (List UInt8)),GfI 1 s q n box nodes er X Y L∧((er≠0∧T=[])∨(er=0∧T=zyh s.data.toList L))
theorem FpI.one {s:ByteArray}{q:List Nd}{n:Nat}{box nodes er er':Int}{T T':List UInt8}(h:FpI s q n box nodes er T)(k:FpI s q n box nodes er' T'):er=er'∧T=T':=by
 obtain⟨X,Y,L,g,h1⟩:=h;obtain⟨X',Y',L',g',k1⟩:=k;obtain⟨rfl,rfl,rfl,rfl⟩:=g.one g';refine⟨rfl,?_⟩;rcases h1 with⟨h0,rfl⟩|⟨h0,rfl⟩
 ·rcases k1 with⟨-,rfl⟩|⟨k0,-⟩
  ·rfl
  ·exact absurd k0 h0
 ·rcases k1 with⟨k0,-⟩|⟨-,rfl⟩
  ·exact absurd h0 k0
  ·rfl
def zzb (s:ByteArray)(q:List Nd)(n:Nat)(box nodes:Int)(w:World)(e:Ending)(w':World):Prop :=
 ∃er T,e=.returned (.tuple #[.string ⟨List.toArray T⟩,.int .i64 er])∧FpI s q n box nodes er T∧Below w.heap.size w w'
theorem zrL {f:List UInt8→List UInt8}{L:List (List UInt8)}(hf:∀r∈L,(f r).length≤1000):(zjH f L).length≤1001*L.length:=by
 induction L with
 | nil=>exact Nat.zero_le _
 | cons r L ih =>
  have h1:=hf r (by simp);have h2:=ih fun x hx=>hf x (by simp[hx]);have e:zjH f (r :: L)=f r++[10]++zjH f L:=rfl;rw[e,List.length_append,List.length_append,List.length_cons,List.length_cons,List.length_nil];omega
theorem zwT {L:List (List UInt8)}{k:Nat}(hk:k<L.length):tat L k∈L:=by
 unfold tat;rw[List.getElem?_eq_getElem hk];exact List.getElem_mem hk
structure Oq (w:World)(A:Option Addr)(n c:Nat)(q:List Nd)(s:ByteArray)(box nodes:Int)(g6:Nat)(u:Gr)(X Y:Int)(W:World):Prop where
 o:Og w A n c q s box nodes W
 gk:W.heap[g6]?=some u.obj
 r:u.R W X Y
section
variable {w W W':World} {A:Option Addr} {n c:Nat} {q:List Nd} {s:ByteArray} {box nodes:Int} {g6:Nat} {u:Gr} {X Y:Int}
theorem Oq.next (h:Oq w A n c q s box nodes g6 u X Y W)(k:Below W.heap.size W W'):Oq w A n c q s box nodes g6 u X Y W':=⟨h.o.next k,(k.block _ (zab h.gk)).trans h.gk,h.r.next k⟩
end
theorem zwU (s:ByteArray):(⟨s.data.toList.toArray⟩:ByteArray)=s:=by cases s;simp
theorem zdw (s t:ByteArray):(s++t).data.toList=s.data.toList++t.data.toList:=by simp[ByteArray.data_append]
theorem zmp (A:Option Addr)(c n:Nat)(s:ByteArray)(q:List Nd)(box nodes:Int)(w:World)(hs:s.size≤1000)(h:Ns w A c q)(hn:q.length=n)(hn9:n≤900000)(hm : -9223372036854775808≤box∧box≤9223372036854775807) :
  Calls Tryz.prog 12 #[.agg #[.string s,.slice A n c],.agg #[.int .i64 box,.int .i64 nodes]] w (zzb s q n box nodes w):=by
 have hcap:=h.cap;rw[hn] at hcap;have OG:=Hh (Og.start (s:=s) (box:=box) (nodes:=nodes) (n:=n) h);have HN:=Hh hn;obtain⟨c0,c1,c2,c3⟩:=OG.out.cells;clear h hn;go_enter Tryz.func12,Tryz.ntmps12;go_upto_if 15 with(go_at_call 31;go_loud (refine(zme A c n s q 1 box nodes _ (by unfold maxLen;omega) OG.out.ns HN.out hn9 hm).mono ?_;rintro e w2 ⟨er,rfl,ck,b_⟩;have OG:=Hh (OG.out.next b_);have CK:=Hh ck;clear b_ ck c0 c1 c2 c3;obtain⟨c0,c1,c2,c3⟩:=OG.out.cells))
 by_cases he:er=0
 ·subst he;have HG:=Hh (zut (zmo CK.out).1);go_upto_region 5 with(go_at_call 32;go_loud (refine(zur A c n q box _ OG.out.ns HN.out hn9 HG.out hm).mono ?_;rintro e w3 ⟨u,X,Y,er,rfl,ru,lu,-,b_,gi⟩;have hal:=(Below.refl w3.heap.size w3).alloc (Nat.le_refl _) u.obj;have OQ:=Hh (show Oq w A n c q s box nodes w3.heap.size u X Y (w3.alloc u.obj) from⟨(OG.out.next b_).next hal,heap_alloc_new w3 u.obj,ru.next hal⟩);have GI:=Hh gi;clear b_ ru lu gi hal c0 c1 c2 c3;obtain⟨c0,c1,c2,c3⟩:=OQ.out.o.cells;obtain⟨g0,g1,g2,g3,g4⟩:=Gr.cells OQ.out.gk))
  have e9:=zyj (by omega) CK.out GI.out;subst e9;obtain⟨g6,hg6⟩:∃g,g=w3.heap.size:=⟨_,rfl⟩;obtain⟨W0,hW0⟩:∃W:World,W=w3.alloc u.obj:=⟨_,rfl⟩;have HTW:=Hh (zwS HG.out.1 HN.out (by
   rcases(zmo CK.out).2.2 with h0|⟨-,h0|h0⟩
   ·omega
   ·omega
   ·exact h0) GI.out)
  rw[←hW0] at OQ c0 c1 c2 c3 g0 g1 g2 g3 g4 ⊢;rw[←hg6] at OQ g0 g1 g2 g3 g4 ⊢;clear hW0 hg6;go_wp2_with fail;go_loopw [10,9] (fun z1 z2 wr=>∃(k:Nat) (t:ByteArray),z1=.int .i64 k∧z2=.string t∧t.data.toList=zul++s.data.toList++[10]++zjH (zdx 79) (u.L.take k)∧k≤u.L.length∧Below W0.heap.size W0 wr) (fun z1 _ _=>u.L.length-(intOf z1).toNat)
  case atStart=>exact⟨0,_,rfl,rfl,by simp[zdw,zul,zjH],Nat.zero_le _,Below.refl _ _⟩
  case round =>
   obtain⟨k,t,rfl,rfl,ht,hk,hb⟩:=hrel;have HT:=Hh ht;have OR:=Hh (OQ.out.next hb);have HB:=Hh hb;clear ht hb c0 c1 c2 c3 g0 g1 g2 g3 g4;obtain⟨g0,g1,g2,g3,g4⟩:=Gr.cells OR.out.gk;by_cases hlt:k<u.L.length
   ·have kw:IntKind.i64.wrap ((k:Int)+1)=(k:Int)+1:=IntWalk.i64_in _ (by have:=HTW.out.2;omega);obtain⟨b3,o3,hA3,-,hcc⟩:=OR.out.r.t.at_ (by omega)
    rw[hA3] at g4;have s0:=hcc k hlt;unfold strV at s0;obtain⟨r,hr⟩:∃r:ByteArray,r=⟨(tat u.L k).toArray⟩:=⟨_,rfl⟩;have hrd:r.data.toList=tat u.L k:=by rw[hr]
    have htw:=HTW.out.1 _ (zwT hlt);have hrs:r.size≤1000:=by rw[←zaf,hrd];exact htw.1
    rw[←hr] at s0;have HRD:=Hh hrd;have j0:(0:Int)≤(k:Int):=by omega
    have j1:(k:Int)<(u.L.length:Int):=by omega
    have j3:decide ((k:Int)<(u.L.length:Int))=true:=decide_eq_true j1;have HLT:=Hh hlt;have hts:t.size≤2000000:=by
     have h1:=zrL (f:=zdx 79) (L:=u.L.take k) (fun x hx=>Nat.le_trans (zkZ 79 x) (HTW.out.1 x (List.mem_of_mem_take hx)).1);have h2:=zaf s;have h3:=HTW.out.2;have h4:=congrArg List.length HT.out;rw[zaf] at h4;rw[List.length_take] at h1;simp only[List.length_append,List.length_cons,List.length_nil,zul] at h4;omega
    have hsg:=zkZ 79 r.data.toList;rw[zaf] at hsg;have m1:(9223372036854775807<t.size+(zdx 79 r.data.toList).length)=False:=eq_false (by omega);have m2:(9223372036854775807<t.size+(zdx 79 r.data.toList).length+1)=False:=eq_false (by omega);clear hcc hr hrd htw hlt hA3 hsg hts;go_wp2_with (go_at_call 33;go_loud (refine(zum r 79 _ (by omega)).mono ?_;rintro e w6 ⟨rfl,b_⟩;have HB:=Hh (HB.out.trans (b_.mono HB.out.size));clear b_));go_roundw
    case rel=>exact⟨k+1,_,by go_num,rfl,by rw[zdw,zdw,HT.out,zoN _ _ HLT.out,HRD.out];simp[tat],HLT.out,HB.out⟩
    case measure=>have:=HLT.out;simp[intOf];omega
   ·have e:k=u.L.length:=by omega
    have HE:=Hh e;have t9:decide ((k:Int)<(u.L.length:Int))=false:=decide_eq_false (by omega);have t10:decide (k<u.L.length)=false:=decide_eq_false hlt;have t11:(k<u.L.length)=False:=eq_false hlt;clear hlt e;go_wp2_with fail;go_ret2;refine⟨0,t.data.toList,by(rw[zwU t];rfl),⟨X,Y,u.L,.inr ⟨rfl,CK.out,GI.out⟩,.inr ⟨rfl,?_⟩⟩,OR.out.o.b⟩;rw[HT.out,HE.out,List.take_length];simp[zyh]
 ·have t1:(er != 0)=true:=by rw[bne_iff_ne];exact he
  have HE:=Hh he;clear he;go_wp2_with fail;go_ret2;exact⟨er,[],rfl,⟨0,0,[],.inl ⟨HE.out,CK.out,rfl,rfl,rfl⟩,.inl ⟨HE.out,rfl⟩⟩,OG.out.b⟩
theorem Ns.patb {w:World}{A A0:Option Addr}{c n0 c0 g k:Nat}{l:List Nd}{u:Value}{s0:ByteArray}{t:TypeId}(h:Ns w A c l)(hb:w.heap[g]?=some (.cells #[.string s0,.slice A0 n0 c0] t)):Ns (w.setCell ⟨g,k,none⟩ u) A c l :=
 ⟨h.1,h.2.1,h.2.2.1,fun h0=>by
  obtain⟨b,off,e,hlt,hc⟩:=h.2.2.2 h0;have hne:b≠g:=fun e2=>by
   subst e2;have h1:=(hc 0 h0).1;rw[cell_of_row w b _ _ _ (0,0) hb] at h1;rcases off with _|_|off
   ·simp at h1
   ·simp at h1
   ·simp at h1
  exact⟨b,off,e,by simpa [World.setCell] using hlt,fun i hi=>(hc i hi).below (Below.heap_setCell w ⟨g,k,none⟩ u b hne)⟩⟩
theorem zmq {t:Tr}{n:Nat}{x y w h:Int}(hn:t.lv.toNat=n)(hc:∀X Y,zax t X Y≠0→x≤X∧X≤x+w-1∧y≤Y∧Y≤y+h-1)
  (tw:∃Y,zax t x Y≠0) (te:∃Y,zax t (x+w-1) Y≠0) (tn:∃X,zax t X y≠0) (ts:∃X,zax t X (y+h-1)≠0):BoxT t n x y w h:=by
 have hM:∀a b,zae t a b=zax t (a-p2 (n-1)) (b-p2 (n-1)):=fun a b=>by
  unfold zax;rw[hn,Int.sub_add_cancel,Int.sub_add_cancel]
 have key:∀{ax e:Nat} {D:Int},(∀X Y,zax t X Y≠0→D≤ds ax e n (X+p2 (n-1)) (Y+p2 (n-1)))→(∃X Y,zax t X Y≠0∧D=ds ax e n (X+p2 (n-1)) (Y+p2 (n-1)))→EdS ax e n (fun u=>u=t) D:=fun h1 h2=>by
  refine⟨fun u hu a b hab=>?_,?_⟩
  ·have hu':u=t:=hu;subst hu';rw[hM] at hab;have:=h1 _ _ hab
   rwa [Int.sub_add_cancel,Int.sub_add_cancel] at this
  ·obtain⟨X,Y,k1,k2⟩:=h2;refine⟨t,X+p2 (n-1),Y+p2 (n-1),rfl,?_,k2⟩;rw[hM,Int.add_sub_cancel,Int.add_sub_cancel];exact k1
 obtain⟨Y1,a1⟩:=tw;obtain⟨Y2,a2⟩:=te;obtain⟨X3,a3⟩:=tn;obtain⟨X4,a4⟩:=ts;refine⟨key (fun X Y hX=>?_) ⟨_,_,a1,rfl⟩,key (fun X Y hX=>?_) ⟨_,_,a3,rfl⟩,key (fun X Y hX=>?_) ⟨_,_,a2,?_⟩,key (fun X Y hX=>?_) ⟨_,_,a4,?_⟩⟩
 ·have:=hc X Y hX;show x+p2 (n-1)≤X+p2 (n-1);omega
 ·have:=hc X Y hX;show y+p2 (n-1)≤Y+p2 (n-1);omega
 ·have:=hc X Y hX;show p2 n-w-(x+p2 (n-1))≤p2 n-1-(X+p2 (n-1));omega
 ·show p2 n-w-(x+p2 (n-1))=p2 n-1-(x+w-1+p2 (n-1));omega
 ·have:=hc X Y hX;show p2 n-h-(y+p2 (n-1))≤p2 n-1-(Y+p2 (n-1));omega
 ·show p2 n-h-(y+p2 (n-1))=p2 n-1-(y+h-1+p2 (n-1));omega
def zbX:List Nd:=[⟨1,1,0,0,1⟩,⟨2,0,0,0,1⟩]
def zcw:List Cl:=[⟨0,0,1⟩,⟨1,1,1⟩]
def zdN:List (List UInt8):=[[1,0],[0,1]]
theorem zoU:zaR zcw=zcw:=by kernel_rfl
theorem zmr:zaR zcw=zdv zbX:=by kernel_rfl
theorem zoV:OfL zbX zbX.length=zbX:=by kernel_rfl
theorem zms:zaJ (zaR zcw)=2:=by kernel_rfl
theorem zmt:zai zbX=true:=by kernel_rfl
theorem zoW:zbT zbX%256=1:=by kernel_rfl
theorem zjK:zaW zcw zbX:=by
 have k:=zex zmt;rw[zoV,←zmr,zoU] at k;exact k
theorem zuu (x y:Int)(h:lk zcw x y≠0):(x=0∧y=0)∨(x=1∧y=1):=by
 unfold zcw lk lk lk at h;dsimp only at h;split at h
 ·rename_i h1;omega
 ·split at h
  ·rename_i h1;omega
  ·exact absurd rfl h
theorem zld:BxV zbX 2 true 0 0 2 2:=by
 have hd:=zjK.den;refine .inr ⟨by omega,rfl,zmq (by kernel_rfl) (fun X Y h=>?_) ⟨0,?_⟩ ⟨1,?_⟩ ⟨0,?_⟩ ⟨1,?_⟩⟩
 ·have:=zuu X Y (by rw[←hd];exact h);omega
 ·rw[show(2:Nat)=zbX.length from rfl,hd]
  decide
 ·rw[show(2:Nat)=zbX.length from rfl,hd]
  decide
 ·rw[show(2:Nat)=zbX.length from rfl,hd]
  decide
 ·rw[show(2:Nat)=zbX.length from rfl,hd]
  decide
theorem zrM:zbv (picM (den zbX 2) 0 0) 2 2=zdN:=by
 have e:picM (den zbX 2) 0 0=fun r c=>lk zcw (0+c) (0+r):=by
  funext r c;exact zjK.den _ _
 rw[e];show zbv (fun r c=>lk zcw (0+c) (0+r)) 2 2=zdN;kernel_rfl
end Go.Proofs.YtbabbmdpgpcgjaaGreatDoor

namespace Go.Proofs.YtbabbmdpgpcgjaaGreatDoor
open Nds
def zaK (c:UInt8):List UInt8→List UInt8
 | []=>[]
 | x :: r=>if x=c∧zaK c r=[] then [] else x :: zaK c r
theorem ziH (c:UInt8)(l:List UInt8)(x:UInt8):zaK c (l++[x])=if x=c then zaK c l else l++[x]:=by
 induction l with
 | nil =>
  show(if x=c∧([]:List UInt8)=[] then [] else [x])=_;by_cases h:x=c
  ·rw[if_pos ⟨h,rfl⟩,if_pos h];rfl
  ·rw[if_neg (fun e=>h e.1),if_neg h];rfl
 | cons y r ih =>
  show(if y=c∧zaK c (r++[x])=[] then [] else y :: zaK c (r++[x]))=_;rw[ih];by_cases h:x=c
  ·rw[if_pos h,if_pos h];rfl
  ·rw[if_neg h,if_neg h,if_neg (fun e=>by have:=e.2;simp at this)];rfl
theorem ziI (c:UInt8)(l:List UInt8):zaK c l=l.take (zaK c l).length:=by
 induction l with
 | nil=>rfl
 | cons y r ih =>
  show(if y=c∧zaK c r=[] then [] else y :: zaK c r)=_;show _=(y :: r).take (if y=c∧zaK c r=[] then [] else y :: zaK c r).length;split
  ·rfl
  ·rw[List.length_cons,List.take_succ_cons,←ih]
theorem zrN {c:UInt8}{l:List UInt8}{x:UInt8}(h:x∈zaK c l):x∈l:=by
 rw[ziI] at h;exact List.mem_of_mem_take h
end Go.Proofs.YtbabbmdpgpcgjaaGreatDoor

namespace Go.Proofs.YtbabbmdpgpcgjaaGreatDoor
open Txt
def zah (p:UInt8→Bool)(l:List UInt8):Nat:=(l.takeWhile p).length
theorem zfi {l:List UInt8}{k:Nat}{c:UInt8}(h:l[k]?=some c):l.drop k=c :: l.drop (k+1):=by
 have hk:k<l.length:=by
  rcases Nat.lt_or_ge k l.length with h1|h1
  ·exact h1
  ·rw[List.getElem?_eq_none h1] at h;cases h
 rw[List.getElem?_eq_getElem hk] at h;rw[List.drop_eq_getElem_cons hk,Option.some.inj h]
theorem zcX {p:UInt8→Bool}{l:List UInt8}{k:Nat}{c:UInt8}(h:l[k]?=some c)(hp:p c=true):zah p (l.drop k)=zah p (l.drop (k+1))+1:=by
 unfold zah;rw[zfi h,List.takeWhile_cons,if_pos hp,List.length_cons]
theorem zle {p:UInt8→Bool}{l:List UInt8}{k:Nat}{c:UInt8}(h:l[k]?=some c)(hp:p c=false):zah p (l.drop k)=0:=by
 unfold zah;rw[zfi h,List.takeWhile_cons,if_neg (by rw[hp];exact Bool.noConfusion)];rfl
theorem znL {p:UInt8→Bool}{l:List UInt8}{k:Nat}(h:l.length≤k):zah p (l.drop k)=0:=by
 rw[List.drop_eq_nil_of_le h];rfl
theorem zbl (p:UInt8→Bool)(l:List UInt8)(k:Nat):zah p (l.drop k)≤l.length-k:=by
 have h:=(List.takeWhile_prefix p (l:=l.drop k)).length_le;rw[List.length_drop] at h;exact h
theorem zbG (p:UInt8→Bool)(l:List UInt8):l.takeWhile p=l.take (zah p l):=by
 unfold zah;exact(List.prefix_iff_eq_take.1 (List.takeWhile_prefix p))
theorem zfj {p:UInt8→Bool}{l:List UInt8}{j:Nat}(h:j<zah p l):∃c,l[j]?=some c∧p c=true:=by
 have h1:j<(l.takeWhile p).length:=h;have h2:(l.takeWhile p)[j]?=some ((l.takeWhile p)[j]'h1):=List.getElem?_eq_getElem h1;have h3:=List.getElem_mem h1;have h4:∀(m:List UInt8),∀x∈m.takeWhile p,p x=true:=by
  intro m
  induction m with
  | nil=>intro x hx;cases hx
  | cons y m ih =>
   intro x hx;rw[List.takeWhile_cons] at hx;by_cases hy:p y=true
   ·rw[if_pos hy] at hx;rcases List.mem_cons.1 hx with rfl|hx
    ·exact hy
    ·exact ih x hx
   ·rw[if_neg hy] at hx;cases hx
 refine⟨_,?_,h4 l _ h3⟩;rw[←h2,zbG p l,List.getElem?_take,if_pos h]
inductive Eo
 | go (k:Nat)
 | short
 | bad (k:Nat)
def eolZ (l:List UInt8)(k:Nat):Eo :=
 match l[k]? with
 | none=>.go k
 | some c =>
  if c=13 then
   match l[k+1]? with
   | none=>.short
   | some d=>if d=10 then .go (k+2) else .bad (k+1)
  else if c=10 then .go (k+1) else .bad k
structure Ln where
 pos:Nat
 rule:List UInt8
 rows:List (List UInt8)
 count:Nat
inductive Ro
 | ok (s:Ln)
 | short
 | bad (k:Nat) (e:Int)
def Ln.eol (s:Ln)(l:List UInt8):Ro :=
 match eolZ l s.pos with
 | .go k=>.ok ⟨k,s.rule,s.rows,s.count⟩
 | .short=>.short
 | .bad k=>.bad k 2
def zbj:List UInt8:=[33,82,117,108,101,58,32]
def zau (c:UInt8):Bool:=c==46||c==79
def zaL (c:UInt8):Bool := !(c==10||c==13)
def farZ (box:Int)(count:Nat)(r:List UInt8):Option Nat :=
 (List.range r.length).find? fun(j:Nat)=>r[j]?==some 79&&(decide (box≤(j:Int))||decide (box≤(count:Int)))
def zbz (L:List (List UInt8))(count:Nat)(r:List UInt8):List (List UInt8) :=
 if zaK 46 r=[] then L else L++List.replicate (count-L.length) []++[zaK 46 r]
def zaE (l:List UInt8)(box:Int)(s:Ln):Ro :=
 if comm (l.drop s.pos) zbj=7 then
  if min 40 (zah sgn (l.drop (s.pos+7)))=0 then (if s.pos+7<l.length then .bad (s.pos+7) 2 else .short)
  else (Ln.mk (s.pos+7+min 40 (zah sgn (l.drop (s.pos+7)))) ((l.drop (s.pos+7)).take (min 40 (zah sgn (l.drop (s.pos+7))))) s.rows s.count).eol l
 else if l[s.pos]?=some 33 then (Ln.mk (s.pos+zah zaL (l.drop s.pos)) s.rule s.rows s.count).eol l
 else
  match farZ box s.count ((l.drop s.pos).takeWhile zau) with
  | some j=>.bad (s.pos+j) 4
  | none=>(Ln.mk (s.pos+zah zau (l.drop s.pos)) s.rule (zbz s.rows s.count ((l.drop s.pos).takeWhile zau)) (s.count+1)).eol l
inductive Rd9 (l:List UInt8) (box:Int):Ln→Ro→Prop
 | done {s:Ln}:l.length≤s.pos→Rd9 l box s (.ok s)
 | short {s:Ln}:s.pos<l.length→zaE l box s=.short→Rd9 l box s .short
 | bad {s:Ln} {k:Nat} {e:Int}:s.pos<l.length→zaE l box s=.bad k e→Rd9 l box s (.bad k e)
 | go {s t:Ln} {o:Ro}:s.pos<l.length→zaE l box s=.ok t→Rd9 l box t o→Rd9 l box s o
theorem Rd9.one {l:List UInt8}{box:Int}{s:Ln}{o:Ro}(h:Rd9 l box s o):∀{p:Ro},Rd9 l box s p→o=p:=by
 induction h with
 | done h1 =>
  intro p k;cases k with
  | done=>rfl
  | short a _=>omega
  | bad a _=>omega
  | go a _ _=>omega
 | short h1 h2 =>
  intro p k;cases k with
  | done a=>omega
  | short=>rfl
  | bad _ b=>rw[h2] at b;cases b
  | go _ b _=>rw[h2] at b;cases b
 | bad h1 h2 =>
  intro p k;cases k with
  | done a=>omega
  | short _ b=>rw[h2] at b;cases b
  | bad _ b=>rw[h2] at b;cases b;rfl
  | go _ b _=>rw[h2] at b;cases b
 | go h1 h2 _ ih =>
  intro p k;cases k with
  | done a=>omega
  | short _ b=>rw[h2] at b;cases b
  | bad _ b=>rw[h2] at b;cases b
  | go _ b c=>rw[h2] at b;cases b;exact ih c
def zwV (l:List UInt8)(box:Int):Nat→Ln→Option Ro
 | 0,_=>none
 | n+1,s =>
  if l.length≤s.pos then some (.ok s) else
   match zaE l box s with
   | .ok t=>zwV l box n t
   | .short=>some .short
   | .bad k e=>some (.bad k e)
theorem zdp {l:List UInt8}{box:Int}:∀{n:Nat} {s:Ln} {o:Ro},zwV l box n s=some o→Rd9 l box s o
 | 0,_,_,h=>by cases h
 | n+1,s,o,h=>by
  unfold zwV at h;by_cases h1:l.length≤s.pos
  ·rw[if_pos h1] at h;cases h;exact .done h1
  ·rw[if_neg h1] at h;have h3:s.pos<l.length:=by omega
   cases h2:zaE l box s with
   | ok t =>
    rw[h2] at h;exact .go h3 h2 (zdp h)
   | short =>
    rw[h2] at h;cases h;exact .short h3 h2
   | bad k e =>
    rw[h2] at h;cases h;exact .bad h3 h2
end Go.Proofs.YtbabbmdpgpcgjaaGreatDoor

namespace Go.Proofs.YtbabbmdpgpcgjaaGreatDoor
open Go.RowKit
structure Rs where
 s:ByteArray
 k:Nat
 h:ByteArray
 ru:ByteArray
 most:Int
 count:Int
 a:Option Addr
 n:Nat
 c:Nat
abbrev Rs.obj (x:Rs):Obj:=.cells #[.string x.s,.int .i64 x.k,.string x.h,.string x.ru,.int .i64 x.most,.int .i64 x.count,.slice x.a x.n x.c] 58
def At9 (p:Nat)(x:Rs)(W:World):Prop:=W.heap[p]?=some x.obj
theorem At9.cells {p:Nat}{x:Rs}{W:World}(h:At9 p x W):W.cell? ⟨p,0,none⟩=some (.string x.s)∧W.cell? ⟨p,1,none⟩=some (.int .i64 x.k)∧W.cell? ⟨p,2,none⟩=some (.string x.h)∧W.cell? ⟨p,3,none⟩=some (.string x.ru)∧W.cell? ⟨p,4,none⟩=some (.int .i64 x.most) ∧
  W.cell? ⟨p,5,none⟩=some (.int .i64 x.count)∧W.cell? ⟨p,6,none⟩=some (.slice x.a x.n x.c):=by
 unfold At9 at h;refine⟨?_,?_,?_,?_,?_,?_,?_⟩ <;> rw[Lib.cell_of_heap h] <;> rfl
theorem At9.free {p:Nat}{x:Rs}{W:World}(h:At9 p x W)(i:Nat):W.frozen? ⟨p,i,none⟩=false:=Lib.frozen_of_heap h i
theorem At9.lt {p:Nat}{x:Rs}{W:World}(h:At9 p x W):p<W.heap.size:=(Array.getElem?_eq_some_iff.1 h).1
theorem At9.same {p:Nat}{x:Rs}{W W':World}(h:At9 p x W)(e:W'.heap[p]?=W.heap[p]?):At9 p x W':=e.trans h
theorem At9.drew {p:Nat}{x:Rs}{W:World}(h:At9 p x W)(n:Nat):At9 p x (W.drewN n):=h
theorem At9.drew1 {p:Nat}{x:Rs}{W:World}(h:At9 p x W):At9 p x W.drew:=h
theorem At9.put {p:Nat}{x y:Rs}{W:World}(h:At9 p x W){i:Nat}{v:Value}(e:y.obj=.cells ((#[.string x.s,.int .i64 x.k,.string x.h,.string x.ru,.int .i64 x.most,.int .i64 x.count,.slice x.a x.n x.c]:Array Value).setIfInBounds i v) 58):At9 p y (W.setCell ⟨p,i,none⟩ v):=by
 unfold At9 at h ⊢;rw[e];simp[World.setCell,Array.getElem?_modify,h]
abbrev Kp (p:Nat)(w w':World):Prop:=Ky (fun i=>i=p) w w'
theorem Kp.drew (p:Nat)(w:World)(n:Nat):Kp p w (w.drewN n):=⟨rfl,rfl,rfl,Nat.le_refl _,fun _ _ _=>rfl⟩
theorem Kp.more {p:Nat}{a b:World}(h:Kp p a b)(n:Nat):Kp p a (b.drewN n):=⟨h.os,h.tape,h.output,h.size,h.block⟩
structure Lq9 (p:Nat)(x:Rs)(w w':World):Prop where
 o:At9 p x w'
 k:Kp p w w'
theorem Lq9.trans {p:Nat}{x y:Rs}{a b c:World}(h:Lq9 p x a b)(k:Lq9 p y b c):Lq9 p y a c:=⟨k.o,h.k.trans k.k fun _ _ e=>e⟩
theorem Lq9.drew {p:Nat}{x:Rs}{w:World}(h:At9 p x w)(n:Nat):Lq9 p x w (w.drewN n):=⟨h,Kp.drew p w n⟩
end Go.Proofs.YtbabbmdpgpcgjaaGreatDoor

namespace Go.Proofs.YtbabbmdpgpcgjaaGreatDoor
open Go.RowKit Num Nds
theorem Tryz.infoTz:(Tryz.prog.info? 9).map (fun i=>(i.zero,i.size,i.bytes))=some (some (.string ⟨#[]⟩),1,16):=by kernel_rfl
def OwP (W:World)(base:Nat)(v:Value)(n:Nat)(L:List (List UInt8)):Prop:=L.length=n∧W.ownsRow base 9 1 v n (L.map strV)
theorem OwP.nil (W:World)(base:Nat):OwP W base (.slice none 0 0) 0 []:=⟨rfl,World.ownsRow_nil _ _ _ 1⟩
theorem OwP.kept {W W':World}{base n:Nat}{v:Value}{L:List (List UInt8)}(h:OwP W base v n L)(k:∀b,v.ownBlock=some b→W'.heap[b]?=W.heap[b]?):OwP W' base v n L :=
 ⟨h.1,h.2.1,by
  rcases h.2.2 with h2|⟨g,cap,cur,rfl,r1,r2,r3⟩
  ·exact .inl h2
  ·exact .inr ⟨g,cap,cur,rfl,r1,(k g rfl).trans r2,r3⟩⟩
theorem OwP.more {W:World}{base n m:Nat}{v:Value}{L M:List (List UInt8)}(h:L.length=n)(hm:M.length=m)(k:W.ownsRow base 9 1 v (n+m) (L.map strV++M.map strV)):OwP W base v (n+m) (L++M) :=
 ⟨by rw[List.length_append,h,hm],by rw[List.map_append];exact k⟩
theorem OwP.ts {W:World}{base n:Nat}{A:Option Addr}{m c:Nat}{L:List (List UInt8)}(h:OwP W base (.slice A m c) n L)(hl:∀r∈L,r.length≤maxLen):m=n∧Ts W A c L:=by
 rcases h.2.2 with⟨e,hn⟩|⟨g,cap,cur,e,hb,hg,hnc,hcm,hcs,ht⟩
 ·cases e;have h0:L=[]:=List.eq_nil_of_length_eq_zero (by rw[h.1,hn]);subst h0;exact⟨hn.symm,Ts.nil W⟩
 ·cases e;refine⟨rfl,hl,?_,hcm,fun hn=>⟨g,0,rfl,(Array.getElem?_eq_some_iff.1 hg).1,fun j u hu=>?_⟩⟩
  ·rw[List.length_map,h.1];exact hnc
  ·rw[cell_of_row _ _ _ _ _ _ hg,Nat.zero_add];rw[←ht,List.getElem?_take] at hu;split at hu
   ·simpa using hu
   ·cases hu
theorem zbH (k:Nat):Builtin.zeroCells (Value.string ⟨#[]⟩).cells k=(List.replicate k (Value.string ⟨#[]⟩)).toArray:=by
 apply Array.ext';unfold Builtin.zeroCells;have h1:(Value.string ⟨#[]⟩).cells=#[Value.string ⟨#[]⟩]:=rfl;rw[h1,Array.toList_map,Array.toList_range];refine List.ext_getElem? fun j=>?_;by_cases hj:j<k
 ·simp[hj,List.getElem?_replicate,Nat.mod_one]
 ·simp[hj,List.getElem?_replicate]
theorem zfS (w:World)(ty:TypeId)(base n k:Nat)(v:Value)(L:List (List UInt8))(h:OwP w base v n L)(hk:n+k≤1000000)(hb:base≤w.heap.size) :
  ∃v' w',(Builtin.append_ #[56,3] ty #[v,.int .i64 (k:Int)]).run Tryz.prog w=.ok v' w'∧OwP w' base v' (n+k) (L++List.replicate k [])∧w.grownBy w' v.ownBlock:=by
 obtain⟨i,hi,hz0,hz1,hz2⟩:=zbL Tryz.infoTz;have hL:=h.1;have hw:IntKind.i64.wrap (k:Int)=k:=IntWalk.i64_in _ (by omega);have hneg:¬ ((k:Int)<0):=by omega
 have h48i:¬ (281474976710656<(k:Int)*(i.bytes:Int)):=by rw[hz2];omega
 have hmapk:(List.replicate k ([]:List UInt8)).map strV=List.replicate k (Value.string ⟨#[]⟩):=by rw[List.map_replicate];rfl
 have put:∀(v':Value) (w':World),w'.ownsRow base 9 1 v' (n+k) (L.map strV++List.replicate k (Value.string ⟨#[]⟩))→OwP w' base v' (n+k) (L++List.replicate k []):=fun v' w' o =>
  OwP.more hL (List.length_replicate ..) (by rw[hmapk];exact o)
 rcases Nat.eq_zero_or_pos k with rfl|hk0
 ·have hw0:IntKind.i64.wrap 0=0:=rfl;refine⟨v,w,?_,by simpa using h,⟨rfl,rfl,rfl,Nat.le_refl _,fun _ _ _=>rfl⟩⟩;rcases h.2.2 with⟨rfl,hn⟩|⟨g,cap,cur,rfl,r1,r2,r3,r4,r5,r6⟩
  ·simp[Builtin.append_,run_underlying Tryz.underlying56,run_underlying Tryz.underlying3,sizeOf,typeInfo,hi,asInt,asIntOf,hw0,hn]
  ·simp[Builtin.append_,run_underlying Tryz.underlying56,run_underlying Tryz.underlying3,sizeOf,typeInfo,hi,asInt,asIntOf,hw0,r3,storeCells]
 ·have hns:¬ (k*i.size=0):=by rw[hz1];omega
  have hk1:k≠0:=by omega
  rcases h.2.2 with⟨rfl,hn⟩|⟨g,cap,cur,rfl,r1,r2,r3,r4,r5,r6⟩
  ·subst hn;have hr:=Lib.run_append_nil_zeros (P:=Tryz.prog) w 56 3 ty 9 i (.string ⟨#[]⟩) .i64 .i64 Tryz.underlying56 Tryz.underlying3 hi hz0 k hk0 (by rw[hz1];omega) (by omega) (by rw[hz2];omega);have hge:=grownCap_ge w k 0 9;have hle:=grownCap_le_maxLen w k 0 9 (by unfold maxLen;omega);refine⟨_,_,hr,put _ _ ⟨by simp[List.length_eq_zero_iff.1 hL],.inr ⟨w.heap.size,_,_,by rw[Nat.zero_add],hb,heap_alloc_new w.drew _,by rw[Nat.zero_add];exact hge,hle,?_,?_⟩⟩,⟨rfl,rfl,rfl,by simp,fun j hj _=>heap_alloc_old w.drew _ hj⟩⟩
   ·rw[zbH,zbH];simp;omega
   ·rw[zbH,zbH,List.length_eq_zero_iff.1 hL];simp
  ·have hcur:cur.toList.take n=L.map strV:=by rw[←r6,Nat.mul_one]
   by_cases hroom:n+k≤cap
   ·have hst:=run_storeCells_at Tryz.prog g n 9 (List.replicate k (Value.string ⟨#[]⟩)) 0 cur w r2 (by rw[List.length_replicate];omega) (fun v hv=>by rw[List.eq_of_mem_replicate hv];rfl);simp only[Nat.add_zero,List.length_replicate] at hst;have hz9:(Builtin.zeroCells #[Value.string ⟨#[]⟩] k).toList=List.replicate k (Value.string ⟨#[]⟩):=by
     have h9:=zbH k;rw[show(Value.string ⟨#[]⟩).cells=#[Value.string ⟨#[]⟩] from rfl] at h9;rw[h9]
    refine⟨.slice (some ⟨g,0,none⟩) (n+k) cap,w.setRow g (cur.toList.take n++List.replicate k (Value.string ⟨#[]⟩)++cur.toList.drop (n+k)).toArray,?_,put _ _ ⟨by simp[hL],.inr ⟨g,cap,_,rfl,r1,setRow_heap w g cur _ 9 _ r2,hroom,r4,?_,?_⟩⟩,⟨rfl,rfl,rfl,by simp,fun j hj hk=>setRow_other w g j _ (fun e=>hk (by simp[Value.ownBlock,e]))⟩⟩
    ·simp[Builtin.append_,run_underlying Tryz.underlying56,run_underlying Tryz.underlying3,sizeOf,typeInfo,zeroValue,hi,hz0,hz1,asInt,asIntOf,hw,hneg,h48i,hroom,hk1,Addr.add_lit,Value.cells,hz9,hst]
    ·simp only[List.size_toArray,List.length_append,List.length_take,List.length_drop,Array.length_toList,List.length_replicate];omega
    ·rw[hcur,Nat.mul_one];exact List.take_left' (by simp[hL])
   ·have hold:(Builtin.firstCells i.size n (.slice (some ⟨g,0,none⟩) n cap)).run Tryz.prog w.drew=.ok (L.map strV).toArray w.drew :=
     run_firstCells_some (P:=Tryz.prog) w.drew i.size n ⟨g,0,none⟩ n cap (L.map strV) (by rw[hz1,Nat.mul_one,List.length_map,hL]) (h.2.cells (g:=g) rfl)
    have hr:=Lib.run_append_grow_zeros (P:=Tryz.prog) w 56 3 ty 9 i (.string ⟨#[]⟩) .i64 .i64 Tryz.underlying56 Tryz.underlying3 hi hz0 (some ⟨g,0,none⟩) n cap (L.map strV) hold k hk0 (by rw[hz1];omega) (by omega) (by omega) (by rw[hz2];omega) (by rw[hz2];exact growslice_fits (by omega) (by omega));have hge:=grownCap_ge w (n+k) cap 9;have hle:=grownCap_le_maxLen w (n+k) cap 9 (by unfold maxLen;omega);refine⟨_,_,hr,put _ _ ⟨by simp[hL],.inr ⟨w.heap.size,_,_,rfl,hb,heap_alloc_new w.drew _,hge,hle,?_,?_⟩⟩,⟨rfl,rfl,rfl,by simp,fun j hj _=>heap_alloc_old w.drew _ hj⟩⟩
    ·rw[zbH,zbH];simp[hL];omega
    ·rw[zbH,zbH,Nat.mul_one,Array.toList_append,Array.toList_append];exact List.take_left' (by simp[hL])
end Go.Proofs.YtbabbmdpgpcgjaaGreatDoor

namespace Go.Proofs.YtbabbmdpgpcgjaaGreatDoor
open Go.RowKit Lib
theorem ziJ (C:UInt8)(s:ByteArray)(w:World)(hs:s.size≤maxLen) :
  Calls Tryz.prog 129 #[.string s,.int .u8 (C.toNat:Int)] w fun e w'=>e=.returned (.string ⟨(zaK C s.data.toList).toArray⟩)∧w'=w:=by
 obtain⟨R,hR⟩:∃R,R=zaK C s.data.toList:=⟨_,rfl⟩;rw[←hR];have HR:=Hh hR;have HS:=Hh hs;clear hR hs;go_enter Tryz.func129,Tryz.ntmps129;go_wp2_with fail;go_loopw [0] (fun z1 wr=>∃t:ByteArray,z1=.string t∧zaK C t.data.toList=R∧t.size≤maxLen∧wr=w) (fun z1 _=>zyi z1)
 case atStart=>exact⟨s,rfl,HR.out.symm,HS.out,rfl⟩
 case round =>
  obtain⟨t,rfl,ht,htl,rfl⟩:=hrel;have HT:=Hh ht;have HTL:=Hh htl;clear ht htl;rcases Nat.eq_zero_or_pos t.size with h0|h0
  ·have t1:decide ((t.size:Int)>0)=false:=decide_eq_false (by omega);have t2:decide (0<t.size)=false:=decide_eq_false (by omega);have t3:(0<t.size)=False:=eq_false (by omega);have HE:=Hh (show t.data.toList=[] from List.eq_nil_of_length_eq_zero (by rw[zaf];exact h0));clear h0;go_wp2_with fail;go_ret;have e:R=[]:=by rw[←HT.out,HE.out];rfl
   refine⟨?_,rfl⟩;rw[e];have e2:t=⟨#[]⟩:=zhU (by rw[HE.out]);rw[e2];rfl
  ·obtain⟨m,hm⟩:∃m,t.size=m+1:=⟨t.size-1,by omega⟩;have hlt:m<t.size:=by omega
   have t1:decide ((t.size:Int)>0)=true:=decide_eq_true (by omega);have t2:decide (0<t.size)=true:=decide_eq_true (by omega);have t3:(0<t.size)=True:=eq_true (by omega);have i1:IntKind.i64.wrap ((t.size:Int)-1)=(m:Int):=by
    rw[show(t.size:Int)-1=(m:Int) by omega];exact IntWalk.i64_in _ (by have:=HTL.out;unfold maxLen at this;omega)
   have i2:(0:Int)≤(m:Int):=by omega
   have i3:(m:Int)<(t.size:Int):=by omega
   have i4:(0:Int)≤(m:Int)∧(m:Int)≤(t.size:Int):=by omega
   have HSN:=Hh (zwQ hm hlt);have HM:=Hh hm;have HGT:=Hh (zbQ hlt);by_cases hx:(t[m]'hlt).toNat=C.toNat
   ·have u1:((((t[m]'hlt).toNat:Nat):Int)==((C.toNat:Nat):Int))=true:=by rw[hx];exact beq_self_eq_true _
    have HX:=Hh (show t[m]'hlt=C from UInt8.toNat_inj.1 hx);clear hm h0 hx;go_wp2_with fail;go_roundw
    case rel=>exact⟨t.extract 0 m,rfl,by(have h9:=HT.out;rw[HSN.out,ziH,if_pos HX.out] at h9;rw[zjI];exact h9),by have:=HTL.out;have h2:=HM.out;have h3:(t.extract 0 m).size=m:=(by rw[←zaf,zjI,List.length_take,zaf];omega);omega,trivial⟩
    case measure =>
     have h2:=HM.out;have h3:(t.extract 0 m).size=m:=by rw[←zaf,zjI,List.length_take,zaf];omega
     show(t.extract 0 m).size<t.size;omega
   ·have u1:((((t[m]'hlt).toNat:Nat):Int)==((C.toNat:Nat):Int))=false:=beq_eq_false_iff_ne.2 (by omega);have HX:=Hh (show ¬ t[m]'hlt=C from fun e=>hx (by rw[e]));clear hm h0 hx;go_wp2_with fail;go_ret;have e:R=t.data.toList:=by rw[←HT.out,HSN.out,ziH,if_neg HX.out]
    refine⟨?_,rfl⟩;rw[e];rfl
theorem ziK (C:UInt8)(hC:C=36∨C=46)(s:ByteArray)(w:World)(hs:s.size≤maxLen) :
  Calls Tryz.prog 96 #[.string s,.string ⟨#[C]⟩] w fun e w'=>e=.returned (.string ⟨(zaK C s.data.toList).toArray⟩)∧w'=w:=by
 by_cases h0:s.data.toList=[]
 ·have e1:s.toList.isEmpty=true:=by
   rw[ByteArray.toList_eq,h0];rfl
  go_enter Tryz.func96,Tryz.ntmps96;go_wp2_with fail;go_ret;refine⟨?_,rfl⟩;rw[h0];have e2:s=⟨#[]⟩:=zhU (by rw[h0]);rw[e2];rfl
 ·have e1:s.toList.isEmpty=false:=by
   rw[ByteArray.toList_eq];cases hl:s.data.toList with
   | nil=>exact absurd hl h0
   | cons x r=>rfl
  rcases hC with rfl|rfl
  ·have h1:=ziJ 36 s w hs;go_enter Tryz.func96,Tryz.ntmps96;go_wp2_with (go_at_call 129;go_loud (refine h1.mono ?_;rintro e w1 ⟨rfl,rfl⟩));go_ret;exact⟨rfl,rfl⟩
  ·have h1:=ziJ 46 s w hs;go_enter Tryz.func96,Tryz.ntmps96;go_wp2_with (go_at_call 129;go_loud (refine h1.mono ?_;rintro e w1 ⟨rfl,rfl⟩));go_ret;exact⟨rfl,rfl⟩
end Go.Proofs.YtbabbmdpgpcgjaaGreatDoor

namespace Go.Proofs.YtbabbmdpgpcgjaaGreatDoor
open Go.RowKit Txt
theorem znM:∀(l m:List UInt8),Lib.hasPrefix l m=decide (comm l m=m.length)
 | _,[]=>by
  unfold Lib.hasPrefix;rw[zgB];simp[comm]
 | [],b :: m=>by
  unfold Lib.hasPrefix;simp[comm]
 | a :: l,b :: m=>by
  have ih:=znM l m;unfold Lib.hasPrefix at ih ⊢;unfold comm;rw[List.isPrefixOf_cons_cons,ih];by_cases h:a=b
  ·subst h;simp
  ·have h2:(b==a)=false:=beq_eq_false_iff_ne.2 fun e=>h e.symm;rw[if_neg h,h2];simp
theorem zuv (s p:ByteArray)(w:World) :
  Calls Tryz.prog 121 #[.string s,.string p] w fun e w'=>e=.returned (.bool (decide (comm s.data.toList p.data.toList=p.data.toList.length)))∧w'=w:=by
 rw[←znM,←Lib.hasPrefix_of_take,←Lib.size_eq,←Lib.size_eq];go_enter Tryz.func121,Tryz.ntmps121;go_wp2
 ·rename_i h;go_ret;refine⟨?_,rfl⟩;show Ending.returned (Value.bool ((s.extract 0 p.size).toList==p.toList))=_;rw[Lib.extract_toList,Lib.toList_data];simp[h]
 ·rename_i h;go_ret;refine⟨?_,rfl⟩;show Ending.returned (Value.bool false)=_;simp[h]
theorem zwW (s p:ByteArray)(w:World) :
  Calls Tryz.prog 88 #[.string s,.string p] w fun e w'=>e=.returned (.bool (decide (comm s.data.toList p.data.toList=p.data.toList.length)))∧w'=w:=by
 go_enter Tryz.func88,Tryz.ntmps88;go_wp2_with (go_at_call 121;refine(zuv s p _).mono ?_;rintro e w' ⟨rfl,rfl⟩);go_ret;exact⟨rfl,rfl⟩
theorem zrO (s:ByteArray)(c:Int)(w:World) :
  Calls Tryz.prog 163 #[.string s,.int .u8 c] w fun e w'=>e=.returned (.int .i64 (Lib.indexByte s.data.toList c.toNat.toUInt8))∧w'=w:=by
 go_enter Tryz.func163,Tryz.ntmps163;go_wp2;rw[run_callFunc_extern Tryz.func186 (by kernel_rfl) (by kernel_rfl) (by kernel_rfl) (e:=Extern.BytealgIndexByte.indexByte) (by kernel_rfl),Lib.run_indexByteString];simp only[Result.andThen];rw[Oper.upon_value];go_wp2;go_ret;exact⟨rfl,rfl⟩
theorem zrP (s:ByteArray)(c:Int)(w:World) :
  Calls Tryz.prog 127 #[.string s,.int .u8 c] w fun e w'=>e=.returned (.int .i64 (Lib.indexByte s.data.toList c.toNat.toUInt8))∧w'=w:=by
 go_enter Tryz.func127,Tryz.ntmps127;go_wp2_with (go_at_call 163;refine(zrO s c _).mono ?_;rintro e w' ⟨rfl,rfl⟩);go_ret;exact⟨rfl,rfl⟩
theorem zuw (s:ByteArray)(w:World) :
  Calls Tryz.prog 164 #[.string s,.string ⟨#[79]⟩] w fun e w'=>e=.returned (.int .i64 (Lib.indexByte s.data.toList 79))∧w'=w:=by
 by_cases h:s.data.toList=[79]
 ·have h1:(([79]:List UInt8)==s.toList)=true:=by rw[Lib.toList_data,h];rfl
  rw[h];clear h;go_enter Tryz.func164,Tryz.ntmps164;go_wp2;go_ret;exact⟨rfl,rfl⟩
 ·have h1:(([79]:List UInt8)==s.toList)=false:=by
   rw[Lib.toList_data];exact beq_eq_false_iff_ne.2 fun e=>h e.symm
  clear h;go_enter Tryz.func164,Tryz.ntmps164;go_wp2_with (go_at_call 163;go_loud (refine(zrO s 79 _).mono ?_;rintro e w' ⟨rfl,rfl⟩));go_ret;exact⟨rfl,rfl⟩
theorem zrQ (s:ByteArray)(w:World) :
  Calls Tryz.prog 128 #[.string s,.string ⟨#[79]⟩] w fun e w'=>e=.returned (.int .i64 (Lib.indexByte s.data.toList 79))∧w'=w:=by
 go_enter Tryz.func128,Tryz.ntmps128;go_wp2_with (go_at_call 164;refine(zuw s _).mono ?_;rintro e w' ⟨rfl,rfl⟩);go_ret;exact⟨rfl,rfl⟩
end Go.Proofs.YtbabbmdpgpcgjaaGreatDoor
