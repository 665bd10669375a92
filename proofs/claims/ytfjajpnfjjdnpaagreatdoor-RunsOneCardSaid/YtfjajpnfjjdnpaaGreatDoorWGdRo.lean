import Derived.Test.YtfjajpnfjjdnpaaGreatDoorWGdE

set_option linter.unusedVariables false
set_option linter.unusedSimpArgs false
set_option maxRecDepth 100000
set_option maxHeartbeats 6400000
namespace Go.Proofs.YtfjajpnfjjdnpaaGreatDoor
open Go.RowKit Num Nds
theorem zsB {L M:List (List UInt8)}(hl:L.length=M.length)(h:∀j,j<L.length→tat L j=tat M j):L=M:=by
 refine List.ext_getElem hl fun j h1 h2=>?_;have:=h j h1;unfold tat at this
 rwa [List.getElem?_eq_getElem h1,List.getElem?_eq_getElem h2] at this
theorem zvL (a b:List UInt8):((⟨a.toArray⟩:ByteArray).toList==(⟨b.toArray⟩:ByteArray).toList)=decide (a=b):=by
 rw[ByteArray.toList_eq,ByteArray.toList_eq];by_cases h:a=b
 ·subst h;rw[decide_eq_true rfl];exact beq_self_eq_true _
 ·rw[decide_eq_false h];exact beq_eq_false_iff_ne.2 (by simpa using h)
structure Sx (w W:World)(K:List (Nat × Obj))(G:List (Gr × Int × Int))(Q:List (Option Addr × Nat × List Nd)):Prop where
 b:Below w.heap.size w W
 bx:∀(i g:Nat) (o:Obj),K[i]?=some (g,o)→W.heap[g]?=some o
 gs:∀(i:Nat) (u:Gr) (X Y:Int),G[i]?=some (u,X,Y)→u.R W X Y
 qs:∀(i:Nat) (A:Option Addr) (c:Nat) (q:List Nd),Q[i]?=some (A,c,q)→Ns W A c q
theorem Sx.start (w:World):Sx w w [] [] []:=⟨Below.refl _ _,fun i g o h=>by simp at h,fun i u X Y h=>by simp at h,fun i A c q h=>by simp at h⟩
theorem Sx.next {w W W1:World}{K:List (Nat × Obj)}{G:List (Gr × Int × Int)}{Q:List (Option Addr × Nat × List Nd)}(s:Sx w W K G Q)(k:Below W.heap.size W W1):Sx w W1 K G Q :=
 ⟨s.b.trans (k.mono s.b.size),fun i g o h=>(k.block _ (zag (s.bx i g o h))).trans (s.bx i g o h),fun i u X Y h=>(s.gs i u X Y h).next k,fun i A c q h=>(s.qs i A c q h).below k⟩
theorem zqt {α:Type}{l:List α}{x y:α}{i:Nat}(h:(l++[x])[i]?=some y):l[i]?=some y∨y=x:=by
 rw[List.getElem?_append] at h;split at h
 ·exact .inl h
 ·refine .inr ?_;have:=List.mem_of_getElem? h;exact(List.mem_singleton.1 this)
theorem Sx.box {w W:World}{K:List (Nat × Obj)}{G:List (Gr × Int × Int)}{Q:List (Option Addr × Nat × List Nd)}(s:Sx w W K G Q)(o:Obj):Sx w (W.alloc o) (K++[(W.heap.size,o)]) G Q:=by
 have t:=s.next ((Below.refl W.heap.size W).alloc (Nat.le_refl _) o);refine⟨t.b,fun i g o' h=>?_,t.gs,t.qs⟩;rcases zqt h with h|h
 ·exact t.bx i g o' h
 ·cases h;exact heap_alloc_new W o
theorem Sx.addQ {w W:World}{K:List (Nat × Obj)}{G:List (Gr × Int × Int)}{Q:List (Option Addr × Nat × List Nd)}(s:Sx w W K G Q){A:Option Addr}{c:Nat}{q:List Nd}(h:Ns W A c q):Sx w W K G (Q++[(A,c,q)]):=by
 refine⟨s.b,s.bx,s.gs,fun i A' c' q' k=>?_⟩;rcases zqt k with k|k
 ·exact s.qs i A' c' q' k
 ·cases k;exact h
theorem zvM {W:World}{g:Nat}{L:List (List UInt8)}(hb:W.heap[g]?=some (.cells (L.map strV).toArray 9))(hl:∀r∈L,r.length≤maxLen)(hn:L.length≤maxLen):Ts W (some ⟨g,0,none⟩) L.length L :=
 ⟨hl,by simp,hn,fun _=>⟨g,0,rfl,zag hb,fun j u hu=>by
  rw[cell_of_row _ _ _ _ _ _ hb,Nat.zero_add];simpa using hu⟩⟩
def BoxP (q:List Nd)(X Y:Int)(wide high:Nat):Prop :=
 (q=[]∧X=0∧Y=0∧wide=0∧high=0)∨(0<wide∧0<high∧∃k,BoxT (den q q.length) k X Y wide high∧(den q q.length).lv.toNat=k)
theorem BxV.boxp {q:List Nd}(hg:zaq q){ok:Bool}{X Y V H:Int}(b:BxV q q.length ok X Y V H):BoxP q X Y V.toNat H.toNat∧0≤V∧0≤H:=by
 rcases b with⟨h0,-,rfl,rfl,rfl,rfl⟩|⟨h0,rfl,h1⟩
 ·exact⟨.inl ⟨List.length_eq_zero_iff.1 h0,rfl,rfl,rfl,rfl⟩,Int.le_refl _,Int.le_refl _⟩
 ·have hlv:=zap (zad hg.1 (i:=q.length-1) (by omega));obtain⟨m,hm⟩:∃m:Nat,(at_ q (q.length-1)).lv=(m:Int)+1:=⟨(at_ q (q.length-1)).lv.toNat-1,by omega⟩;have hw:=zbv hg.1 (q.length-1) (by omega);rw[Nat.sub_add_cancel (by omega),hm] at hw;have hne:=(hg.2 (q.length-1) (by omega)).1;rw[Nat.sub_add_cancel (by omega)] at hne;have hn:(den q q.length).lv.toNat=(at_ q (q.length-1)).lv.toNat:=by rw[zqd hw hne,hm]
  obtain⟨⟨x1,y1,a1,-⟩,-⟩:=h1.touch hn;have hc:=h1.cell hn a1;refine⟨.inr ⟨by omega,by omega,_,?_,hn⟩,by omega,by omega⟩;rw[Int.toNat_of_nonneg (by omega),Int.toNat_of_nonneg (by omega)];exact h1
theorem zkb (M:Int→Int→Int){k wide high:Nat}(hk:k<high):tat (zcP M wide high) k=strM M k wide:=by
 unfold tat;rw[zja M hk];rfl
theorem znS (M:Int→Int→Int){wide high:Nat}(h:high=0→wide=0):zcp (zcP M wide high)=wide:=by
 unfold zcp;by_cases h0:high=0
 ·rw[h h0,h0];rfl
 ·rw[zkb M (by omega),zcA]
theorem BoxP.flat {q:List Nd}{X Y:Int}{wide high:Nat}(b:BoxP q X Y wide high):high=0→wide=0:=fun h=>by
 rcases b with⟨-,-,-,h1,-⟩|⟨-,h1,-⟩
 ·exact h1
 ·omega
theorem BxV.hi {q:List Nd}(hg:zaq q){ok:Bool}{X Y V H:Int}(b:BxV q q.length ok X Y V H):(-p2 1330≤X∧X≤p2 1330)∧(-p2 1330≤Y∧Y≤p2 1330):=by
 have m1:=zar 1330;rcases b with⟨-,-,h1,h2,h3,h4⟩|⟨h0,-,h1⟩
 ·omega
 ·have hlv:=zap (zad hg.1 (i:=q.length-1) (by omega));obtain⟨m,hm⟩:∃m:Nat,(at_ q (q.length-1)).lv=(m:Int)+1:=⟨(at_ q (q.length-1)).lv.toNat-1,by omega⟩;have hw:=zbv hg.1 (q.length-1) (by omega);rw[Nat.sub_add_cancel (by omega),hm] at hw;have e1:(at_ q (q.length-1)).lv.toNat=m+1:=by omega
  rw[e1] at h1;have hw2:∀t,(fun u=>u=den q q.length) t→wfT ((m+1:Nat):Int) t:=fun t ht=>by have ht':t=den q q.length:=ht;rw[ht'];exact hw
  have a1:=h1.west.in_ hw2;have a3:=h1.north.in_ hw2;have m2:=zaM (show m+1≤1330 by omega);rw[Nat.add_sub_cancel] at a1 a3;have m3:=zau m;have m4:=zar m;omega
theorem GoI.hi {q:List Nd}{n:Nat}{most er X Y:Int}{R:List (List UInt8)}(hg:zaq q)(hn:q.length=n)(g:GoI q n most er X Y R):(-p2 1330≤X∧X≤p2 1330)∧(-p2 1330≤Y∧Y≤p2 1330):=by
 subst hn;have m1:=zar 1330;rcases g with⟨-,-,h1,h2,-⟩|⟨-,ok,X',Y',V,H,b,h1⟩
 ·omega
 ·have:=b.hi hg;rcases h1 with⟨-,-,h1,h2,-⟩|⟨-,-,h1,h2,-⟩ <;> omega
structure Rb (w:World)(A:Option Addr)(n c:Nat)(q:List Nd)(g6:Nat)(u:Xb)(X Y V H:Int)(W:World):Prop where
 o:Oo w A n c q W
 ub:W.heap[g6]?=some u.obj
 r:u.R W X Y V H
structure Rf (W8:World)(M:Int→Int→Int)(u:Xb)(wide k:Nat)(a:Option Addr)(c:Nat)(W:World):Prop where
 bb:Below W8.heap.size W8 W
 gk:W.heap[W8.heap.size]?=some (.cells #[.bool u.x.s,.slice u.x.a u.x.xs.length u.x.c,.bool u.y.s,.slice u.y.a u.y.xs.length u.y.c,.slice a k c] 51)
 own:W.ownsRow (W8.heap.size+1) 9 1 (.slice a k c) k ((zcP M wide k).map strV)
end Go.Proofs.YtfjajpnfjjdnpaaGreatDoor
