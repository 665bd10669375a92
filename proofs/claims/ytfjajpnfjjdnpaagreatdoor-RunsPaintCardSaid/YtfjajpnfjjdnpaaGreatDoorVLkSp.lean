import Derived.Test.YtfjajpnfjjdnpaaGreatDoorVLkQ
import Derived.ArgAppend

set_option linter.unusedVariables false
set_option linter.unusedSimpArgs false
set_option maxRecDepth 100000
set_option maxHeartbeats 6400000
namespace Go.Proofs.YtfjajpnfjjdnpaaGreatDoor
open Go.RowKit Num Nds
def getQ (q:List Nd)(X Y:Int):Int:=zas (den q q.length) X Y
theorem znT {q:List Nd}(hq:zac q=true)(X Y:Int):0≤getQ q X Y∧getQ q X Y≤255:=by
 have key:∀(t:Tr) (n:Nat) (x y:Int),wfT (n:Int) t→0≤zad t x y∧zad t x y≤255:=by
  intro t
  induction t with
  | e=>intro n x y _;exact⟨Int.le_refl 0,by show(0:Int)≤255;omega⟩
  | s k =>
   intro n x y h;show 0≤(if x=0∧y=0 then k else 0)∧(if x=0∧y=0 then k else 0)≤255;have:=h.2;split <;> omega
  | n v a b c d iha ihb ihc ihd =>
   intro n x y h;obtain⟨m,rfl,rfl,ha,hb,hc,hd,_⟩:=wf_n h;show 0≤zad (.n _ a b c d) x y∧_;unfold zad;split <;> split
   ·exact iha m _ _ ha
   ·exact ihc m _ _ hc
   ·exact ihb m _ _ hb
   ·exact ihd m _ _ hd
 unfold getQ;obtain⟨v,hv⟩:=zju hq (Nat.le_refl q.length);have hw:∃n:Nat,wfT (n:Int) (den q q.length):=by
  generalize den q q.length=t at hv;cases t with
  | e=>exact⟨0,trivial⟩
  | s k=>exact⟨0,by rw[show((0:Nat):Int)=v from hv.1.symm];exact hv⟩
  | n u a b c d =>
   have h1:=hv.1;have h2:=hv.2.1;exact⟨v.toNat,by rwa [show((v.toNat:Nat):Int)=v by omega]⟩
 obtain⟨n,hn⟩:=hw;exact key _ n _ _ hn
end Go.Proofs.YtfjajpnfjjdnpaaGreatDoor

namespace Go.Proofs.YtfjajpnfjjdnpaaGreatDoor
open Go.RowKit Nds
theorem zaX.cells {w:World}{g:Nat}{x:Nd}(h:zaX w g x):w.cell? ⟨g,0,none⟩=some (.int .i64 x.lv)∧w.cell? ⟨g,1,none⟩=some (.int .i64 x.a)∧w.cell? ⟨g,2,none⟩=some (.int .i64 x.b)∧w.cell? ⟨g,3,none⟩=some (.int .i64 x.c)∧w.cell? ⟨g,4,none⟩=some (.int .i64 x.d):=h.at_
end Go.Proofs.YtfjajpnfjjdnpaaGreatDoor

namespace Go.Proofs.YtfjajpnfjjdnpaaGreatDoor
open Go.RowKit Num Nds
def inR (X:Int):Prop := -p2 1328≤X∧X<p2 1328
instance (X:Int):Decidable (inR X):=inferInstanceAs (Decidable (_∧_))
end Go.Proofs.YtfjajpnfjjdnpaaGreatDoor
