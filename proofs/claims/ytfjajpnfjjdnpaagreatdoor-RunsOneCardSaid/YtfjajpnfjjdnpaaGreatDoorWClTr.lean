import Derived.Test.YtfjajpnfjjdnpaaGreatDoorWNcOr
import Derived.Laws.EntriesVeiled
import Derived.Test.YtfjajpnfjjdnpaaGreatDoorWNcPB
import Derived.LoopN

set_option linter.unusedVariables false
set_option linter.unusedSimpArgs false
set_option maxRecDepth 100000
set_option maxHeartbeats 6400000
namespace Go.Proofs.YtfjajpnfjjdnpaaGreatDoor
open Go.RowKit Nds
theorem zvs (A:Option Addr)(c n:Nat)(l:List Nd)(k:Int)(q:List Nd)(qn:Nat)(er:Int)(w:World)(h:Ns w A c l)(hn:l.length=n)(hn9:n≤900000)(hA:A=none→c=0)(hq:ofQ l k=q)(hqn:q.length=qn)(he:ofE l k=er) :
  Calls Tryz.prog 46 #[.slice A n c,.int .i64 k] w fun e w'=>∃A' c',e=.returned (.tuple #[.agg #[.slice A' qn c'],.int .i64 er])∧Ns w' A' c' q∧(A'=none→c'=0)∧Below w.heap.size w w' :=
 (zug A c n l k w h hn hn9 hA).mono fun e w' ⟨A',c',h1,h2,h3,h4⟩=>⟨A',c',by rw[←hqn,←hq,←he];exact h1,by rw[←hq];exact h2,h3,h4⟩
structure Al (w W:World)(L:List (Option Addr × Nat × List Nd))(M:List (Nat × Value)):Prop where
 sn:Sn w W L
 bx:∀t∈M,W.heap[t.1]?=some (.cells #[t.2] 28)
theorem Al.start (w:World):Al w w [] []:=⟨Sn.start w,by simp⟩
theorem Al.step {w W W':World}{L:List (Option Addr × Nat × List Nd)}{M:List (Nat × Value)}(s:Al w W L M)(b:Below W.heap.size W W'):Al w W' L M :=
 ⟨s.sn.step b,fun t ht=>(b.block t.1 (zvr (s.bx t ht))).trans (s.bx t ht)⟩
theorem Al.alloc {w W:World}{L:List (Option Addr × Nat × List Nd)}{M:List (Nat × Value)}(s:Al w W L M)(o:Obj):Al w (W.alloc o) L M:=s.step ((Below.refl _ W).alloc (Nat.le_refl _) o)
theorem Al.addN {w W:World}{L:List (Option Addr × Nat × List Nd)}{M:List (Nat × Value)}(s:Al w W L M){A:Option Addr}{c:Nat}{l:List Nd}(h:Ns W A c l):Al w W ((A,c,l) :: L) M:=⟨s.sn.add h,s.bx⟩
theorem Al.addB {w W:World}{L:List (Option Addr × Nat × List Nd)}{M:List (Nat × Value)}(s:Al w W L M)(v:Value):Al w (W.alloc (.cells #[v] 28)) L ((W.heap.size,v) :: M) :=
 ⟨(s.alloc _).sn,fun t ht=>by
  rcases List.mem_cons.1 ht with rfl|ht
  ·exact heap_alloc_new W _
  ·exact(s.alloc _).bx t ht⟩
theorem Al.getN {w W:World}{L:List (Option Addr × Nat × List Nd)}{M:List (Nat × Value)}(s:Al w W L M){A:Option Addr}{c:Nat}{l:List Nd}(h:(A,c,l)∈L):Ns W A c l:=s.sn.get h
theorem Al.getB {w W:World}{L:List (Option Addr × Nat × List Nd)}{M:List (Nat × Value)}(s:Al w W L M){g:Nat}{v:Value}(h:(g,v)∈M):W.cell? ⟨g,0,none⟩=some v:=zse (s.bx _ h)
theorem zvt {l:List Nd}{t:Tr}:∀(m:Nat) (cur:List Nd) (p:Nat),(at_ cur p).lv≤m→SS l t cur p→∃cur' p',SS l t cur' p'∧holT (den cur' (p'+1))=false:=by
 intro m
 induction m with
 | zero =>
  intro cur p hm h;have:=zap (zad h.1 h.2.1);omega
 | succ m ih =>
  intro cur p hm h;cases hh:holT (den cur (p+1)) with
  | false=>exact⟨cur,p,h,hh⟩
  | true =>
   refine ih _ _ ?_ (h.next hh);rw[zfc];show(at_ cur p).lv-1≤_;omega
theorem zuh {l:List Nd}(hl:zac l=true){n:Nat}(hn:n≤l.length):(OfL l n).length≤l.length+1328:=by
 cases n with
 | zero =>
  unfold OfL;rw[zav,ztU];exact Nat.zero_le _
 | succ p =>
  by_cases he:den l (p+1)=.e
  ·unfold OfL;rw[he,ztU];exact Nat.zero_le _
  ·have hs:=SS.start hl (p:=p) (by omega) he;have hv:=zap (zad hl (i:=p) (by omega));obtain⟨cur,q,h1,h2⟩:=zvt 1329 l p hv.2 hs;have h3:=h1.len;have h4:=zoW h1.1 (q+1) [] (by have:=h1.2.1;omega) (zkI cur);have h5:=h4.len;have h6:den cur (q+1)=shrT (den l (p+1)):=by rw[←h1.2.2.2.1,zct h2]
   rw[h6] at h5;exact Nat.le_trans h5 h3
theorem zui (l:List Nd)(k:Int):(ofQ l k).length≤l.length+1328:=by
 unfold ofQ;split
 ·rename_i h;unfold okB at h;rw[Bool.and_eq_true,decide_eq_true_iff] at h;exact zuh h.1 (by omega)
 ·exact Nat.zero_le _
end Go.Proofs.YtfjajpnfjjdnpaaGreatDoor

namespace Go.Proofs.YtfjajpnfjjdnpaaGreatDoor
open Go.RowKit Nds Num Go.Shelf
theorem OwnC.mono {w:World}{base base':Nat}{v:Value}{l:List Cv}(h:OwnC w base v l)(hb:base'≤base):OwnC w base' v l:=by
 refine⟨h.1,?_⟩;rcases h.2 with h|⟨g,cap,cur,e,hb',rest⟩
 ·exact .inl h
 ·exact .inr ⟨g,cap,cur,e,by omega,rest⟩
end Go.Proofs.YtfjajpnfjjdnpaaGreatDoor

namespace Go.Proofs.YtfjajpnfjjdnpaaGreatDoor
open Nds Num
def Cv.cn (v:Cv):Cl:=⟨(val v.xs:Nat),(val v.ys:Nat),v.st⟩
end Go.Proofs.YtfjajpnfjjdnpaaGreatDoor
