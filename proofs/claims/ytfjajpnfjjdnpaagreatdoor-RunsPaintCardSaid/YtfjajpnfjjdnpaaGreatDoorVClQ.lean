import Derived.Laws.EntriesVeiled
import Derived.Test.YtfjajpnfjjdnpaaGreatDoorVNcKM
import Derived.LoopN

set_option linter.unusedVariables false
set_option linter.unusedSimpArgs false
set_option maxRecDepth 100000
set_option maxHeartbeats 6400000
namespace Go.Proofs.YtfjajpnfjjdnpaaGreatDoor
open Go.RowKit Nds
theorem ztN (A:Option Addr)(c n:Nat)(l:List Nd)(k:Int)(q:List Nd)(qn:Nat)(er:Int)(w:World)(h:Ns w A c l)(hn:l.length=n)(hn9:n≤900000)(hA:A=none→c=0)(hq:ofQ l k=q)(hqn:q.length=qn)(he:ofE l k=er) :
  Calls Tryz.prog 46 #[.slice A n c,.int .i64 k] w fun e w'=>∃A' c',e=.returned (.tuple #[.agg #[.slice A' qn c'],.int .i64 er])∧Ns w' A' c' q∧(A'=none→c'=0)∧Below w.heap.size w w' :=
 (zsA A c n l k w h hn hn9 hA).mono fun e w' ⟨A',c',h1,h2,h3,h4⟩=>⟨A',c',by rw[←hqn,←hq,←he];exact h1,by rw[←hq];exact h2,h3,h4⟩
end Go.Proofs.YtfjajpnfjjdnpaaGreatDoor

namespace Go.Proofs.YtfjajpnfjjdnpaaGreatDoor
open Nds
def zcI:Tr→Int→Int→List Cl
 | .e,_,_=>[]
 | .s k,X,Y=>[⟨X,Y,k⟩]
 | .n v a b c d,X,Y=>zcI a X Y++zcI b (X+p2 (v.toNat-1)) Y++zcI c X (Y+p2 (v.toNat-1))++zcI d (X+p2 (v.toNat-1)) (Y+p2 (v.toNat-1))
theorem znQ:∀(l m:List Cl) (x y:Int),lk (l++m) x y=if (∃c∈l,c.x=x∧c.y=y) then lk l x y else lk m x y
 | [],m,x,y=>by
  rw[if_neg (by rintro⟨c,hc,_⟩;cases hc)];rfl
 | a :: l,m,x,y=>by
  show(if a.x=x∧a.y=y then a.s else lk (l++m) x y)=if _ then (if a.x=x∧a.y=y then a.s else lk l x y) else _
  by_cases ha:a.x=x∧a.y=y
  ·rw[if_pos ha,if_pos ⟨a,by simp,ha⟩,if_pos ha]
  ·rw[if_neg ha,znQ l m x y];by_cases hl:∃c∈l,c.x=x∧c.y=y
   ·obtain⟨c,hc,h⟩:=hl;rw[if_pos ⟨c,hc,h⟩,if_pos ⟨c,by simp[hc],h⟩,if_neg ha]
   ·rw[if_neg hl,if_neg];rintro⟨c,hc,h⟩;rcases List.mem_cons.1 hc with rfl|hc
    ·exact ha h
    ·exact hl ⟨c,hc,h⟩
theorem zfU {X Y h:Int}{l m:List Cl}(hl:∀c∈l,sqB X Y h c=true)(hm:∀c∈m,sqB X Y h c=false)(x y:Int):lk (l++m) x y=lk l x y+lk m x y:=by
 rw[znQ];by_cases he:∃c∈l,c.x=x∧c.y=y
 ·rw[if_pos he];obtain⟨c,hc,h1⟩:=he;have h2:=zaU.1 (hl c hc);rw[zfR (l:=m) (fun d hd e=>by
   have h3:=hm d hd;have h4:sqB X Y h d=true:=zaU.2 (by rw[e.1,e.2,←h1.1,←h1.2];exact h2);rw[h4] at h3;cases h3)]
  omega
 ·rw[if_neg he,zfR (l:=l) (fun d hd e=>he ⟨d,hd,e⟩)];omega
theorem zcq:∀(t:Tr) (n:Nat) (X Y:Int),wfT (n:Int) t→Fine (zcI t X Y)∧(∀c∈zcI t X Y,sqB X Y (p2 n) c=true)∧∀x y,lk (zcI t X Y) x y=zad t (x-X) (y-Y)
 | .e,_,_,_,_=>⟨⟨fun c hc=>absurd hc (List.not_mem_nil),List.Pairwise.nil⟩,fun c hc=>absurd hc (List.not_mem_nil),fun x y=>rfl⟩
 | .s k,n,X,Y,hw=>by
  have hn:(n:Int)=0:=hw.1;have:n=0:=by omega
  subst this;refine⟨⟨fun c hc=>?_,List.pairwise_singleton _ _⟩,fun c hc=>?_,fun x y=>?_⟩
  ·rw[List.mem_singleton.1 hc];exact⟨hw.2.1,hw.2.2⟩
  ·rw[List.mem_singleton.1 hc,zaU,zez];show X≤X∧X<X+1∧Y≤Y∧Y<Y+1;omega
  ·show(if X=x∧Y=y then k else 0)=if x-X=0∧y-Y=0 then k else 0
   by_cases h:X=x∧Y=y
   ·rw[if_pos h,if_pos (by omega)]
   ·rw[if_neg h,if_neg (by omega)]
 | .n v a b c d,n,X,Y,hw=>by
  obtain⟨m,rfl,rfl,ha,hb,hc,hd,_⟩:=wf_n hw;have hp:=zay m;have ep:=zau m;obtain⟨fa,sa,ka⟩:=zcq a m X Y ha;obtain⟨fb,sb,kb⟩:=zcq b m (X+p2 m) Y hb;obtain⟨fc,sc,kc⟩:=zcq c m X (Y+p2 m) hc;obtain⟨fd,sd,kd⟩:=zcq d m (X+p2 m) (Y+p2 m) hd;have e:((m:Int)+1).toNat-1=m:=by omega
  have el:zcI (.n ((m:Int)+1) a b c d) X Y=zcI a X Y++zcI b (X+p2 m) Y++zcI c X (Y+p2 m)++zcI d (X+p2 m) (Y+p2 m):=by
   show zcI a X Y++zcI b (X+p2 (((m:Int)+1).toNat-1)) Y++zcI c X (Y+p2 (((m:Int)+1).toNat-1))++zcI d (X+p2 (((m:Int)+1).toNat-1)) (Y+p2 (((m:Int)+1).toNat-1))=_;rw[e]
  rw[el];have apart:∀{l1 l2:List Cl} {X1 Y1 X2 Y2:Int},(∀c∈l1,sqB X1 Y1 (p2 m) c=true)→(∀c∈l2,sqB X2 Y2 (p2 m) c=true)→(X1+p2 m≤X2∨X2+p2 m≤X1∨Y1+p2 m≤Y2∨Y2+p2 m≤Y1)→∀c∈l1,∀d∈l2,¬ (c.x=d.x∧c.y=d.y):=fun h1 h2 h3 c hc d hd e=>by
   have a1:=zaU.1 (h1 c hc);have a2:=zaU.1 (h2 d hd);omega
  have outOf:∀{l2:List Cl} {X1 Y1 X2 Y2:Int},(∀c∈l2,sqB X2 Y2 (p2 m) c=true)→(X1+p2 m≤X2∨X2+p2 m≤X1∨Y1+p2 m≤Y2∨Y2+p2 m≤Y1)→∀c∈l2,sqB X1 Y1 (p2 m) c=false:=fun h2 h3 c hc=>by
   have a2:=zaU.1 (h2 c hc);cases hq:sqB _ _ (p2 m) c
   ·rfl
   ·have:=zaU.1 hq;omega
  refine⟨⟨fun q hq=>?_,?_⟩,fun q hq=>?_,fun x y=>?_⟩
  ·rcases List.mem_append.1 hq with hq|hq
   ·rcases List.mem_append.1 hq with hq|hq
    ·rcases List.mem_append.1 hq with hq|hq
     ·exact fa.1 q hq
     ·exact fb.1 q hq
    ·exact fc.1 q hq
   ·exact fd.1 q hq
  ·rw[List.pairwise_append,List.pairwise_append,List.pairwise_append];refine⟨⟨⟨fa.2,fb.2,apart sa sb (by omega)⟩,fc.2,fun q hq=>?_⟩,fd.2,fun q hq=>?_⟩
   ·rcases List.mem_append.1 hq with hq|hq
    ·exact apart sa sc (by omega) q hq
    ·exact apart sb sc (by omega) q hq
   ·rcases List.mem_append.1 hq with hq|hq
    ·rcases List.mem_append.1 hq with hq|hq
     ·exact apart sa sd (by omega) q hq
     ·exact apart sb sd (by omega) q hq
    ·exact apart sc sd (by omega) q hq
  ·rw[zaU,zau];rcases List.mem_append.1 hq with hq|hq
   ·rcases List.mem_append.1 hq with hq|hq
    ·rcases List.mem_append.1 hq with hq|hq
     ·have:=zaU.1 (sa q hq);omega
     ·have:=zaU.1 (sb q hq);omega
    ·have:=zaU.1 (sc q hq);omega
   ·have:=zaU.1 (sd q hq);omega
  ·rw[List.append_assoc,List.append_assoc,zfU sa (fun q hq=>by
    rcases List.mem_append.1 hq with hq|hq
    ·exact outOf sb (by omega) q hq
    ·rcases List.mem_append.1 hq with hq|hq
     ·exact outOf sc (by omega) q hq
     ·exact outOf sd (by omega) q hq),zfU sb (fun q hq=>by
    rcases List.mem_append.1 hq with hq|hq
    ·exact outOf sc (by omega) q hq
    ·exact outOf sd (by omega) q hq),zfU sc (fun q hq=>outOf sd (by omega) q hq),ka,kb,kc,kd,zbT ha hb hc hd]
   rw[show x-(X+p2 m)=x-X-p2 m by omega,show y-(Y+p2 m)=y-Y-p2 m by omega];omega
end Go.Proofs.YtfjajpnfjjdnpaaGreatDoor
