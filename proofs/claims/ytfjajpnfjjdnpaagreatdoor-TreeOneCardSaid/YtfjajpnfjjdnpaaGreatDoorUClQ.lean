import Derived.Test.YtfjajpnfjjdnpaaGreatDoorUNcKM
import Derived.Laws.EntriesVeiled
import Derived.LoopN

set_option linter.unusedVariables false
set_option linter.unusedSimpArgs false
set_option maxRecDepth 100000
set_option maxHeartbeats 6400000
namespace Go.Proofs.YtfjajpnfjjdnpaaGreatDoor
open Go.RowKit Nds
theorem zjo {w:World}{g:Nat}{u:Value}{t:TypeId}(h:w.heap[g]?=some (.cells #[u] t)):w.cell? ⟨g,0,none⟩=some u:=by
 rw[cell_of_row w g _ _ _ _ h];rfl
theorem zhr (A:Option Addr)(c n:Nat)(l:List Nd)(k:Int)(q:List Nd)(qn:Nat)(er:Int)(w:World)(h:Ns w A c l)(hn:l.length=n)(hn9:n≤900000)(hA:A=none→c=0)(hq:ofQ l k=q)(hqn:q.length=qn)(he:ofE l k=er) :
  Calls Tryz.prog 46 #[.slice A n c,.int .i64 k] w fun e w'=>∃A' c',e=.returned (.tuple #[.agg #[.slice A' qn c'],.int .i64 er])∧Ns w' A' c' q∧(A'=none→c'=0)∧Below w.heap.size w w' :=
 (zoM A c n l k w h hn hn9 hA).mono fun e w' ⟨A',c',h1,h2,h3,h4⟩=>⟨A',c',by rw[←hqn,←hq,←he];exact h1,by rw[←hq];exact h2,h3,h4⟩
theorem zpB {l:List Nd}{t:Tr}:∀(m:Nat) (cur:List Nd) (p:Nat),(at_ cur p).lv≤m→SS l t cur p→∃cur' p',SS l t cur' p'∧holT (den cur' (p'+1))=false:=by
 intro m
 induction m with
 | zero =>
  intro cur p hm h;have:=zao (zae h.1 h.2.1);omega
 | succ m ih =>
  intro cur p hm h;cases hh:holT (den cur (p+1)) with
  | false=>exact⟨cur,p,h,hh⟩
  | true =>
   refine ih _ _ ?_ (h.next hh);rw[zbC];show(at_ cur p).lv-1≤_;omega
theorem zoO {l:List Nd}(hl:zaa l=true){n:Nat}(hn:n≤l.length):(OfL l n).length≤l.length+1328:=by
 cases n with
 | zero =>
  unfold OfL;rw[zal,zmW];exact Nat.zero_le _
 | succ p =>
  by_cases he:den l (p+1)=.e
  ·unfold OfL;rw[he,zmW];exact Nat.zero_le _
  ·have hs:=SS.start hl (p:=p) (by omega) he;have hv:=zao (zae hl (i:=p) (by omega));obtain⟨cur,q,h1,h2⟩:=zpB 1329 l p hv.2 hs;have h3:=h1.len;have h4:=zlk h1.1 (q+1) [] (by have:=h1.2.1;omega) (zhY cur);have h5:=h4.len;have h6:den cur (q+1)=shrT (den l (p+1)):=by rw[←h1.2.2.2.1,zbr h2]
   rw[h6] at h5;exact Nat.le_trans h5 h3
theorem zie (l:List Nd)(k:Int):(ofQ l k).length≤l.length+1328:=by
 unfold ofQ;split
 ·rename_i h;unfold okB at h;rw[Bool.and_eq_true,decide_eq_true_iff] at h;exact zoO h.1 (by omega)
 ·exact Nat.zero_le _
end Go.Proofs.YtfjajpnfjjdnpaaGreatDoor

namespace Go.Proofs.YtfjajpnfjjdnpaaGreatDoor
open Nds
def zcp:Tr→Int→Int→List Cl
 | .e,_,_=>[]
 | .s k,X,Y=>[⟨X,Y,k⟩]
 | .n v a b c d,X,Y=>zcp a X Y++zcp b (X+p2 (v.toNat-1)) Y++zcp c X (Y+p2 (v.toNat-1))++zcp d (X+p2 (v.toNat-1)) (Y+p2 (v.toNat-1))
theorem zlr:∀(l m:List Cl) (x y:Int),lk (l++m) x y=if (∃c∈l,c.x=x∧c.y=y) then lk l x y else lk m x y
 | [],m,x,y=>by
  rw[if_neg (by rintro⟨c,hc,_⟩;cases hc)];rfl
 | a :: l,m,x,y=>by
  show(if a.x=x∧a.y=y then a.s else lk (l++m) x y)=if _ then (if a.x=x∧a.y=y then a.s else lk l x y) else _
  by_cases ha:a.x=x∧a.y=y
  ·rw[if_pos ha,if_pos ⟨a,by simp,ha⟩,if_pos ha]
  ·rw[if_neg ha,zlr l m x y];by_cases hl:∃c∈l,c.x=x∧c.y=y
   ·obtain⟨c,hc,h⟩:=hl;rw[if_pos ⟨c,hc,h⟩,if_pos ⟨c,by simp[hc],h⟩,if_neg ha]
   ·rw[if_neg hl,if_neg];rintro⟨c,hc,h⟩;rcases List.mem_cons.1 hc with rfl|hc
    ·exact ha h
    ·exact hl ⟨c,hc,h⟩
theorem zeO {X Y h:Int}{l m:List Cl}(hl:∀c∈l,sqB X Y h c=true)(hm:∀c∈m,sqB X Y h c=false)(x y:Int):lk (l++m) x y=lk l x y+lk m x y:=by
 rw[zlr];by_cases he:∃c∈l,c.x=x∧c.y=y
 ·rw[if_pos he];obtain⟨c,hc,h1⟩:=he;have h2:=zaQ.1 (hl c hc);rw[zeM (l:=m) (fun d hd e=>by
   have h3:=hm d hd;have h4:sqB X Y h d=true:=zaQ.2 (by rw[e.1,e.2,←h1.1,←h1.2];exact h2);rw[h4] at h3;cases h3)]
  omega
 ·rw[if_neg he,zeM (l:=l) (fun d hd e=>he ⟨d,hd,e⟩)];omega
theorem zbV:∀(t:Tr) (n:Nat) (X Y:Int),wfT (n:Int) t→Fine (zcp t X Y)∧(∀c∈zcp t X Y,sqB X Y (p2 n) c=true)∧∀x y,lk (zcp t X Y) x y=zad t (x-X) (y-Y)
 | .e,_,_,_,_=>⟨⟨fun c hc=>absurd hc (List.not_mem_nil),List.Pairwise.nil⟩,fun c hc=>absurd hc (List.not_mem_nil),fun x y=>rfl⟩
 | .s k,n,X,Y,hw=>by
  have hn:(n:Int)=0:=hw.1;have:n=0:=by omega
  subst this;refine⟨⟨fun c hc=>?_,List.pairwise_singleton _ _⟩,fun c hc=>?_,fun x y=>?_⟩
  ·rw[List.mem_singleton.1 hc];exact⟨hw.2.1,hw.2.2⟩
  ·rw[List.mem_singleton.1 hc,zaQ,zeK];show X≤X∧X<X+1∧Y≤Y∧Y<Y+1;omega
  ·show(if X=x∧Y=y then k else 0)=if x-X=0∧y-Y=0 then k else 0
   by_cases h:X=x∧Y=y
   ·rw[if_pos h,if_pos (by omega)]
   ·rw[if_neg h,if_neg (by omega)]
 | .n v a b c d,n,X,Y,hw=>by
  obtain⟨m,rfl,rfl,ha,hb,hc,hd,_⟩:=wf_n hw;have hp:=zaV m;have ep:=zaH m;obtain⟨fa,sa,ka⟩:=zbV a m X Y ha;obtain⟨fb,sb,kb⟩:=zbV b m (X+p2 m) Y hb;obtain⟨fc,sc,kc⟩:=zbV c m X (Y+p2 m) hc;obtain⟨fd,sd,kd⟩:=zbV d m (X+p2 m) (Y+p2 m) hd;have e:((m:Int)+1).toNat-1=m:=by omega
  have el:zcp (.n ((m:Int)+1) a b c d) X Y=zcp a X Y++zcp b (X+p2 m) Y++zcp c X (Y+p2 m)++zcp d (X+p2 m) (Y+p2 m):=by
   show zcp a X Y++zcp b (X+p2 (((m:Int)+1).toNat-1)) Y++zcp c X (Y+p2 (((m:Int)+1).toNat-1))++zcp d (X+p2 (((m:Int)+1).toNat-1)) (Y+p2 (((m:Int)+1).toNat-1))=_;rw[e]
  rw[el];have apart:∀{l1 l2:List Cl} {X1 Y1 X2 Y2:Int},(∀c∈l1,sqB X1 Y1 (p2 m) c=true)→(∀c∈l2,sqB X2 Y2 (p2 m) c=true)→(X1+p2 m≤X2∨X2+p2 m≤X1∨Y1+p2 m≤Y2∨Y2+p2 m≤Y1)→∀c∈l1,∀d∈l2,¬ (c.x=d.x∧c.y=d.y):=fun h1 h2 h3 c hc d hd e=>by
   have a1:=zaQ.1 (h1 c hc);have a2:=zaQ.1 (h2 d hd);omega
  have outOf:∀{l2:List Cl} {X1 Y1 X2 Y2:Int},(∀c∈l2,sqB X2 Y2 (p2 m) c=true)→(X1+p2 m≤X2∨X2+p2 m≤X1∨Y1+p2 m≤Y2∨Y2+p2 m≤Y1)→∀c∈l2,sqB X1 Y1 (p2 m) c=false:=fun h2 h3 c hc=>by
   have a2:=zaQ.1 (h2 c hc);cases hq:sqB _ _ (p2 m) c
   ·rfl
   ·have:=zaQ.1 hq;omega
  refine⟨⟨fun q hq=>?_,?_⟩,fun q hq=>?_,fun x y=>?_⟩
  ·rcases List.mem_append.1 hq with hq|hq
   ·rcases List.mem_append.1 hq with hq|hq
    ·rcases List.mem_append.1 hq with hq|hq
     ·exact fa.1 q hq
     ·exact fb.1 q hq
    ·exact fc.1 q hq
   ·exact fd.1 q hq
  ·rw[List.pairwise_append,List.pairwise_append,List.pairwise_append];refine⟨⟨⟨fa.2,fb.2,apart sa sb (by omega)⟩,fc.2,fun q hq=>?_⟩,fd.2,fun q hq=>?_⟩
   ·rcases List.mem_append.1 hq with hq|hq
    ·exact apart sa sc (by omega) q hq
    ·exact apart sb sc (by omega) q hq
   ·rcases List.mem_append.1 hq with hq|hq
    ·rcases List.mem_append.1 hq with hq|hq
     ·exact apart sa sd (by omega) q hq
     ·exact apart sb sd (by omega) q hq
    ·exact apart sc sd (by omega) q hq
  ·rw[zaQ,zaH];rcases List.mem_append.1 hq with hq|hq
   ·rcases List.mem_append.1 hq with hq|hq
    ·rcases List.mem_append.1 hq with hq|hq
     ·have:=zaQ.1 (sa q hq);omega
     ·have:=zaQ.1 (sb q hq);omega
    ·have:=zaQ.1 (sc q hq);omega
   ·have:=zaQ.1 (sd q hq);omega
  ·rw[List.append_assoc,List.append_assoc,zeO sa (fun q hq=>by
    rcases List.mem_append.1 hq with hq|hq
    ·exact outOf sb (by omega) q hq
    ·rcases List.mem_append.1 hq with hq|hq
     ·exact outOf sc (by omega) q hq
     ·exact outOf sd (by omega) q hq),zeO sb (fun q hq=>by
    rcases List.mem_append.1 hq with hq|hq
    ·exact outOf sc (by omega) q hq
    ·exact outOf sd (by omega) q hq),zeO sc (fun q hq=>outOf sd (by omega) q hq),ka,kb,kc,kd,zbL ha hb hc hd]
   rw[show x-(X+p2 m)=x-X-p2 m by omega,show y-(Y+p2 m)=y-Y-p2 m by omega];omega
theorem zls {l m:List Nd}(hl:zaa l=true)(hm:zaa m=true){n k:Nat}(hn:n≤l.length)(hk:k≤m.length)(h:∀x y,zaR (den l n) x y=zaR (den m k) x y):OfL l n=OfL m k:=by
 have key:∀{l:List Nd} {n:Nat},zaa l=true→n≤l.length→∃q:Nat,wfT (q:Int) (den l n):=fun {l n} hl hn=>by
  cases n with
  | zero=>rw[zal];exact⟨0,trivial⟩
  | succ p =>
   have hv:=zao (zae hl (i:=p) (by omega));refine⟨(at_ l p).lv.toNat,?_⟩;have hw:=zcx hl p (by omega)
   rwa [show(((at_ l p).lv.toNat:Nat):Int)=(at_ l p).lv by omega]
 have nat:∀{t:Tr} {v:Int},wfT v t→(∀k,t≠.s k)→∃q:Nat,wfT (q:Int) t:=fun {t v} hw hs=>by
  cases t with
  | e=>exact⟨0,trivial⟩
  | s k=>exact absurd rfl (hs k)
  | n u a b c d =>
   have h1:=hw.1;have h2:=hw.2.1;exact⟨v.toNat,by rwa [show((v.toNat:Nat):Int)=v by omega]⟩
 obtain⟨q1,w1⟩:=key hl hn;obtain⟨q2,w2⟩:=key hm hk;obtain⟨u1,a1,b1,c1⟩:=zcI hl hn;obtain⟨u2,a2,b2,c2⟩:=zcI hm hk;obtain⟨p1,d1⟩:=nat a1 b1;obtain⟨p2',d2⟩:=nat a2 b2;have e:shrT (den l n)=shrT (den m k):=zhp d1 d2 b1 b2 c1 c2 fun x y=>by rw[zeL w1,zeL w2];exact h x y
 unfold OfL;rw[e]
end Go.Proofs.YtfjajpnfjjdnpaaGreatDoor
