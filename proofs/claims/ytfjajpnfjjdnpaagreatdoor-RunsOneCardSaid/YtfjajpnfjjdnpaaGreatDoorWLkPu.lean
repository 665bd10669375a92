import Derived.Test.YtfjajpnfjjdnpaaGreatDoorWLkRq

set_option linter.unusedVariables false
set_option linter.unusedSimpArgs false
set_option maxRecDepth 100000
set_option maxHeartbeats 6400000
namespace Go.Proofs.YtfjajpnfjjdnpaaGreatDoor
open Go.RowKit Num Nds
theorem zag {W:World}{g:Nat}{o:Obj}(h:W.heap[g]?=some o):g<W.heap.size:=(Array.getElem?_eq_some_iff.1 h).1
end Go.Proofs.YtfjajpnfjjdnpaaGreatDoor

namespace Go.Proofs.YtfjajpnfjjdnpaaGreatDoor
theorem ziV {P:Program}{md:Region.Mode}{ops:Array Oper}{Q:Exit→Act→World→Prop}{S:World→Prop}{T:Type}(rank:T→Nat)(mask:T→Array Bool)(left:T→Nat)(inv:T→Act→World→Prop)
  (h:∀s,(∀s',rank s'<rank s→∀a w,inv s' a w→wpAnyH P md ops Q S (left s') (mask s') a w)→∀a w,inv s a w→wpAnyH P md ops Q S (left s) (mask s) a w) :
  ∀(s:T) (a:Act) (w:World),inv s a w→wpAnyH P md ops Q S (left s) (mask s) a w:=by
 have key:∀(n:Nat) (s:T),rank s≤n→∀(a:Act) (w:World),inv s a w→wpAnyH P md ops Q S (left s) (mask s) a w:=by
  intro n
  induction n with
  | zero=>exact fun s hs=>h s (fun s' hs'=>by omega)
  | succ n ih=>exact fun s hs=>h s (fun s' hs'=>ih s' (by omega))
 exact fun s=>key (rank s) s (Nat.le_refl _)
theorem zht {P:Program}{md:Region.Mode}{ops:Array Oper}{Q:Exit→Act→World→Prop}{S:World→Prop}{T:Type}(rank:T→Nat)(mask:T→Array Bool)(left:T→Nat)(inv:T→Act→World→Prop)
  (h:∀s,(∀s' k m,rank s'<rank s→k=left s'→m=mask s'→∀a w,inv s' a w→wpAnyH P md ops Q S k m a w)→∀a w,inv s a w→wpAnyH P md ops Q S (left s) (mask s) a w) :
  ∀(s:T) (k:Nat) (m:Array Bool),k=left s→m=mask s→∀(a:Act) (w:World),inv s a w→wpAnyH P md ops Q S k m a w:=by
 intro s k m hk hm a w hi;subst hk hm;exact ziV rank mask left inv (fun s ih=>h s (fun s' k m hr hk hm a w hi=>by subst hk hm;exact ih s' hr a w hi)) s a w hi
end Go.Proofs.YtfjajpnfjjdnpaaGreatDoor
