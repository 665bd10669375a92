import Derived.Test.YtcippfaljoagaaaGreatDoorHNcAd
import Derived.Laws.EntriesVeiled
import Derived.LoopN

set_option linter.unusedVariables false
set_option linter.unusedSimpArgs false
set_option maxRecDepth 100000
set_option maxHeartbeats 6400000
namespace Go.Proofs.YtcippfaljoagaaaGreatDoor
open Go.RowKit Nds
theorem zvb (A:Option Addr)(c n:Nat)(l:List Nd)(k:Int)(q:List Nd)(qn:Nat)(er:Int)(w:World)(h:Ns w A c l)(hn:l.length=n)(hn9:n≤900000)(hA:A=none→c=0)(hq:ofQ l k=q)(hqn:q.length=qn)(he:ofE l k=er) :
  Calls Tryz.prog 121 #[.slice A n c,.int .i64 k] w fun e w'=>∃A' c',e=.returned (.tuple #[.agg #[.slice A' qn c'],.int .i64 er])∧Ns w' A' c' q∧(A'=none→c'=0)∧Below w.heap.size w w' :=
 (ztI A c n l k w h hn hn9 hA).mono fun e w' ⟨A',c',h1,h2,h3,h4⟩=>⟨A',c',by rw[←hqn,←hq,←he];exact h1,by rw[←hq];exact h2,h3,h4⟩
structure Al (w W:World)(L:List (Option Addr × Nat × List Nd))(M:List (Nat × Value)):Prop where
 sn:Sn w W L
 bx:∀t∈M,W.heap[t.1]?=some (.cells #[t.2] 28)
theorem Al.start (w:World):Al w w [] []:=⟨Sn.start w,by simp⟩
theorem Al.step {w W W':World}{L:List (Option Addr × Nat × List Nd)}{M:List (Nat × Value)}(s:Al w W L M)(b:Below W.heap.size W W'):Al w W' L M :=
 ⟨s.sn.step b,fun t ht=>(b.block t.1 (zva (s.bx t ht))).trans (s.bx t ht)⟩
theorem Al.alloc {w W:World}{L:List (Option Addr × Nat × List Nd)}{M:List (Nat × Value)}(s:Al w W L M)(o:Obj):Al w (W.alloc o) L M:=s.step ((Below.refl _ W).alloc (Nat.le_refl _) o)
theorem Al.addN {w W:World}{L:List (Option Addr × Nat × List Nd)}{M:List (Nat × Value)}(s:Al w W L M){A:Option Addr}{c:Nat}{l:List Nd}(h:Ns W A c l):Al w W ((A,c,l) :: L) M:=⟨s.sn.add h,s.bx⟩
theorem Al.addB {w W:World}{L:List (Option Addr × Nat × List Nd)}{M:List (Nat × Value)}(s:Al w W L M)(v:Value):Al w (W.alloc (.cells #[v] 28)) L ((W.heap.size,v) :: M) :=
 ⟨(s.alloc _).sn,fun t ht=>by
  rcases List.mem_cons.1 ht with rfl|ht
  ·exact heap_alloc_new W _
  ·exact(s.alloc _).bx t ht⟩
theorem Al.getN {w W:World}{L:List (Option Addr × Nat × List Nd)}{M:List (Nat × Value)}(s:Al w W L M){A:Option Addr}{c:Nat}{l:List Nd}(h:(A,c,l)∈L):Ns W A c l:=s.sn.get h
theorem Al.getB {w W:World}{L:List (Option Addr × Nat × List Nd)}{M:List (Nat × Value)}(s:Al w W L M){g:Nat}{v:Value}(h:(g,v)∈M):W.cell? ⟨g,0,none⟩=some v:=zrx (s.bx _ h)
end Go.Proofs.YtcippfaljoagaaaGreatDoor

namespace Go.Proofs.YtcippfaljoagaaaGreatDoor
open Nds
theorem zmf:∀(l:List Cl) (c:Cl),(insC l c).length≤l.length+1
 | [],c=>Nat.le_refl _
 | a :: l,c=>by
  have h:=zmf l c;unfold insC;split
  ·rw[List.length_cons,List.length_cons];omega
  ·split
   ·rw[List.length_cons,List.length_cons];omega
   ·rw[List.length_cons,List.length_cons];omega
theorem zmg:∀(l m:List Cl),(l.foldl insC m).length≤m.length+l.length
 | [],m=>Nat.le_refl _
 | c :: l,m=>by
  have h:=zmg l (insC m c);have h2:=zmf m c;rw[List.foldl_cons,List.length_cons];omega
theorem zry (l:List Cl):(zbC l).length≤l.length:=by
 unfold zbC zdn;have h:=zmg l [];have h2:=List.length_filter_le (fun c:Cl=>c.s != 0) (l.foldl insC []);simp only[List.length_nil,Nat.zero_add] at h;exact Nat.le_trans h2 h
end Go.Proofs.YtcippfaljoagaaaGreatDoor

namespace Go.Proofs.YtcippfaljoagaaaGreatDoor
open Go.RowKit Nds
theorem zvc {l:List Nd}{t:Tr}:∀(m:Nat) (cur:List Nd) (p:Nat),(at_ cur p).lv≤m→SS l t cur p→∃cur' p',SS l t cur' p'∧holT (den cur' (p'+1))=false:=by
 intro m
 induction m with
 | zero =>
  intro cur p hm h;have:=zap (zaf h.1 h.2.1);omega
 | succ m ih =>
  intro cur p hm h;cases hh:holT (den cur (p+1)) with
  | false=>exact⟨cur,p,h,hh⟩
  | true =>
   refine ih _ _ ?_ (h.next hh);rw[zfq];show(at_ cur p).lv-1≤_;omega
theorem ztL {l:List Nd}(hl:zac l=true){n:Nat}(hn:n≤l.length):(OfL l n).length≤l.length+1328:=by
 cases n with
 | zero =>
  unfold OfL;rw[zav,ztv];exact Nat.zero_le _
 | succ p =>
  by_cases he:den l (p+1)=.e
  ·unfold OfL;rw[he,ztv];exact Nat.zero_le _
  ·have hs:=SS.start hl (p:=p) (by omega) he;have hv:=zap (zaf hl (i:=p) (by omega));obtain⟨cur,q,h1,h2⟩:=zvc 1329 l p hv.2 hs;have h3:=h1.len;have h4:=zoH h1.1 (q+1) [] (by have:=h1.2.1;omega) (zkI cur);have h5:=h4.len;have h6:den cur (q+1)=shrT (den l (p+1)):=by rw[←h1.2.2.2.1,zcA h2]
   rw[h6] at h5;exact Nat.le_trans h5 h3
theorem ztM (l:List Nd)(k:Int):(ofQ l k).length≤l.length+1328:=by
 unfold ofQ;split
 ·rename_i h;unfold okB at h;rw[Bool.and_eq_true,decide_eq_true_iff] at h;exact ztL h.1 (by omega)
 ·exact Nat.zero_le _
end Go.Proofs.YtcippfaljoagaaaGreatDoor

namespace Go.Proofs.YtcippfaljoagaaaGreatDoor
open Nds
theorem zpb {l:List Nd}(hl:zac l=true):∀{m:Nat} {k:Int},kidB l ((m:Int)+1) k=true→wfT (m:Int) (kidT (dens l) ((m:Int)+1) k)
 | 0,k,hk=>by
  have h:kidB l 1 k=true:=hk;rw[zdJ,decide_eq_true_iff] at h;exact zuR h
 | m+1,k,hk=>by
  have hne:(((m+1:Nat)):Int)+1≠1:=by omega
  rcases zaA hne hk with rfl|⟨p,rfl,hp,hlv⟩
  ·rw[zco];trivial
  ·rw[zaF hne,show((p:Int)+1).toNat=p+1 by omega];have h:=zbz hl p hp
   rwa [hlv,show(((m+1:Nat)):Int)+1-1=((m+1:Nat):Int) by omega] at h
theorem zaq {t:Tr}{n:Nat}{x y:Int}(hw:wfT (n:Int) t)(h:¬ (0≤x∧x<p2 n∧0≤y∧y<p2 n)):zah t x y=0 :=
 Classical.byContradiction fun h2=>h (zar t n x y hw h2)
def qtI (h x y:Int):Nat:=(if x<h then 0 else 1)+(if y<h then 0 else 2)
def subI (h x:Int):Int:=if x<h then x else x-h
theorem zpc (h x y:Int):qtI h x y<4:=by
 unfold qtI;split <;> split <;> omega
def zgL (m:Nat)(l:List Nd)(n:Int):Nd:=if n=0 then ⟨(m:Int)+1,0,0,0,0⟩ else at_ l (n-1).toNat
theorem zmh {l:List Nd}(hl:zac l=true){m:Nat}(hm:m≤1328){n:Int}(hn:kidB l (((m+1:Nat))+1:Int) n=true):fitB l (zgL m l n)=true∧(zgL m l n).lv=(m:Int)+1∧kidT (dens l) (((m+1:Nat))+1:Int) n=norm (dens l) (zgL m l n):=by
 have hne:(((m+1:Nat)):Int)+1≠1:=by omega
 unfold zgL;rcases zaA hne hn with rfl|⟨p,rfl,hp,hlv⟩
 ·rw[if_pos rfl,zco];have hk:∀v:Int,1≤v→kidB l v 0=true:=fun v hv=>by
   by_cases h1:v=1
   ·rw[h1,zdJ];rfl
   ·exact zds _ _ h1
  refine⟨?_,rfl,?_⟩
  ·unfold fitB Nd.each;rw[decide_eq_true (show 1≤(m:Int)+1∧(m:Int)+1≤1329 by omega)];show(true&&(kidB l ((m:Int)+1) 0&&kidB l ((m:Int)+1) 0&&kidB l ((m:Int)+1) 0&&kidB l ((m:Int)+1) 0))=true;rw[hk _ (by omega)];rfl
  ·show _=mk _ (kidT (dens l) ((m:Int)+1) 0) (kidT (dens l) ((m:Int)+1) 0) (kidT (dens l) ((m:Int)+1) 0) (kidT (dens l) ((m:Int)+1) 0);rw[zco];rfl
 ·rw[if_neg (by omega),show((p:Int)+1-1).toNat=p by omega];refine⟨zaf hl hp,by omega,?_⟩;rw[zaF hne,show((p:Int)+1).toNat=p+1 by omega,zaw hl hp]
theorem ziG {l:List Nd}{x:Nd}{m:Nat}(h:x.lv=(m:Int)+1):norm (dens l) x=mk ((m:Int)+1) (kidT (dens l) ((m:Int)+1) (x.kid 0)) (kidT (dens l) ((m:Int)+1) (x.kid 1)) (kidT (dens l) ((m:Int)+1) (x.kid 2)) (kidT (dens l) ((m:Int)+1) (x.kid 3)):=by
 unfold norm;rw[h];rfl
def getF:Nat→List Nd→Int→Int→Int→Int
 | 0,_,n,_,_=>n
 | m+1,l,n,x,y=>if n=0 then 0 else getF m l ((zgL m l n).kid (qtI (p2 m) x y)) (subI (p2 m) x) (subI (p2 m) y)
theorem zeO {l:List Nd}(hl:zac l=true):∀{m:Nat} {n x y:Int},m≤1329→kidB l ((m:Int)+1) n=true→0≤x→x<p2 m→0≤y→y<p2 m→getF m l n x y=zah (kidT (dens l) ((m:Int)+1) n) x y
 | 0,n,x,y,_,hn,hx0,hx,hy0,hy=>by
  rw[zen] at hx hy;obtain rfl:x=0:=by omega
  obtain rfl:y=0:=by omega
  show n=zah (st n) 0 0;unfold st;split
  ·rename_i h;rw[h];rfl
  ·rfl
 | m+1,n,x,y,hm,hn,hx0,hx,hy0,hy=>by
  obtain⟨h1,h2,h3⟩:=zmh hl (by omega) hn;have hw:∀i,i<4→wfT (m:Int) (kidT (dens l) ((m:Int)+1) ((zgL m l n).kid i)):=fun i hi=>zpb hl (by have:=zak h1 hi;rwa [h2] at this);have hk:∀i,i<4→kidB l ((m:Int)+1) ((zgL m l n).kid i)=true:=fun i hi=>by have:=zak h1 hi;rwa [h2] at this
  have hp:=zan m;have hp1:=zam m;unfold getF;rw[h3,ziG h2,zdy (hw 0 (by omega)) (hw 1 (by omega)) (hw 2 (by omega)) (hw 3 (by omega))];by_cases hn0:n=0
  ·rw[if_pos hn0];have e:zgL m l n=⟨(m:Int)+1,0,0,0,0⟩:=by unfold zgL;rw[if_pos hn0]
   rw[e];show(0:Int)=zah (kidT (dens l) _ 0) _ _+zah (kidT (dens l) _ 0) _ _+zah (kidT (dens l) _ 0) _ _+zah (kidT (dens l) _ 0) _ _;rw[zco];rfl
  ·rw[if_neg hn0];unfold qtI subI;by_cases hx1:x<p2 m
   ·by_cases hy1:y<p2 m
    ·simp only[hx1,hy1,if_true];rw[zeO hl (by omega) (hk _ (by omega)) hx0 hx1 hy0 hy1,zaq (hw 1 (by omega)) (by omega),zaq (hw 2 (by omega)) (by omega),zaq (hw 3 (by omega)) (by omega)];simp
    ·simp only[hx1,hy1,if_true,if_false];rw[zeO hl (by omega) (hk _ (by omega)) hx0 hx1 (by omega) (by omega),zaq (hw 0 (by omega)) (by omega),zaq (hw 1 (by omega)) (by omega),zaq (hw 3 (by omega)) (by omega)];simp
   ·by_cases hy1:y<p2 m
    ·simp only[hx1,hy1,if_true,if_false];rw[zeO hl (by omega) (hk _ (by omega)) (by omega) (by omega) hy0 hy1,zaq (hw 0 (by omega)) (by omega),zaq (hw 2 (by omega)) (by omega),zaq (hw 3 (by omega)) (by omega)];simp
    ·simp only[hx1,hy1,if_false];rw[zeO hl (by omega) (hk _ (by omega)) (by omega) (by omega) (by omega) (by omega),zaq (hw 0 (by omega)) (by omega),zaq (hw 1 (by omega)) (by omega),zaq (hw 2 (by omega)) (by omega)];simp
end Go.Proofs.YtcippfaljoagaaaGreatDoor
