import Derived.Test.YtfjajpnfjjdnpaaGreatDoorUDecRText

set_option linter.unusedVariables false
set_option linter.unusedSimpArgs false
set_option maxRecDepth 100000
set_option maxHeartbeats 6400000
namespace Go.Proofs.YtfjajpnfjjdnpaaGreatDoor
open Nds
def zaM (M:Int):Tr→Prop
 | .e=>True
 | .s k=>k≤M
 | .n _ a b c d=>zaM M a∧zaM M b∧zaM M c∧zaM M d
theorem zaM.mono {M N:Int}(h:M≤N){t:Tr}:zaM M t→zaM N t:=by
 induction t with
 | e=>exact id
 | s k=>exact fun k=>Int.le_trans k h
 | n v a b c d iha ihb ihc ihd=>exact fun k=>⟨iha k.1,ihb k.2.1,ihc k.2.2.1,ihd k.2.2.2⟩
theorem zaM.cell {M:Int}(h0:0≤M){t:Tr}:zaM M t→∀x y,zad t x y≤M:=by
 induction t with
 | e=>exact fun _ x y=>h0
 | s k =>
  intro h x y;show(if x=0∧y=0 then k else 0)≤M;split
  ·exact h
  ·exact h0
 | n v a b c d iha ihb ihc ihd =>
  intro h x y;unfold zad;split <;> split
  ·exact iha h.1 _ _
  ·exact ihc h.2.2.1 _ _
  ·exact ihb h.2.1 _ _
  ·exact ihd h.2.2.2 _ _
theorem zaM.mk_ {M v:Int}{a b c d:Tr}(ha:zaM M a)(hb:zaM M b)(hc:zaM M c)(hd:zaM M d):zaM M (mk v a b c d):=by
 unfold mk;split
 ·trivial
 ·exact⟨ha,hb,hc,hd⟩
theorem zlW (l:List Nd)(x:Nd):zaq l≤zaq (l++[x]):=by
 rw[zeU];split <;> omega
theorem zeY (l:List Nd):0≤zaq l:=by
 suffices h:∀k,k≤l.length→0≤zaq (l.take k) by
  have:=h l.length (Nat.le_refl _)
  rwa [List.take_length] at this
 intro k
 induction k with
 | zero=>exact fun _=>Int.le_refl _
 | succ k ih =>
  intro hk;rw[zdB (by omega)];have:=ih (by omega);split <;> omega
theorem zjE {M:Int}{ts:List Tr}(h:∀t∈ts,zaM M t){v c:Int}(hc:v=1→c≤M):zaM M (kidT ts v c):=by
 have hg:∀n,zaM M (ts.getD n .e):=fun n=>by
  rw[List.getD_eq_getElem?_getD];cases hx:ts[n]? with
  | none=>trivial
  | some t=>exact h t (List.mem_of_getElem? hx)
 unfold kidT;split
 ·rename_i h1;unfold st;split
  ·trivial
  ·exact hc h1
 ·exact hg _
theorem zlX (l:List Nd):∀t∈dens l,zaM (zaq l) t:=by
 suffices h:∀k,k≤l.length→∀t∈dens (l.take k),zaM (zaq (l.take k)) t by
  have:=h l.length (Nat.le_refl _)
  rwa [List.take_length] at this
 intro k
 induction k with
 | zero =>
  intro _ t ht;have e:t=.e:=by simpa [dens] using ht
  rw[e];trivial
 | succ k ih =>
  intro hk t ht;have hx:l[k]?=some (l[k]'(by omega)):=List.getElem?_eq_getElem (by omega);have hx2:at_ l k=l[k]'(by omega):=by
   unfold at_;rw[hx]
   rfl
  have htk:l.take (k+1)=l.take k++[at_ l k]:=by
   rw[List.take_add_one,hx,hx2];rfl
  have hi:=ih (by omega);have hmo:=zlW (l.take k) (at_ l k);have hi2:∀t∈dens (l.take k),zaM (zaq (l.take k++[at_ l k])) t:=fun t ht=>(hi t ht).mono hmo;rw[htk,zcw] at ht;rw[htk];rcases List.mem_append.1 ht with h1|h1
  ·exact hi2 t h1
  ·rw[List.mem_singleton.1 h1];have hm:(at_ l k).lv=1→maxN (at_ l k)≤zaq (l.take k++[at_ l k]):=fun e=>by
    rw[zeU,if_pos e];omega
   unfold maxN at hm;exact zaM.mk_ (zjE hi2 fun e=>by have:=hm e;omega) (zjE hi2 fun e=>by have:=hm e;omega) (zjE hi2 fun e=>by have:=hm e;omega) (zjE hi2 fun e=>by have:=hm e;omega)
theorem zlY (q:List Nd)(X Y:Int):getQ q X Y≤zaq q:=by
 unfold getQ zaR;refine zaM.cell (zeY q) ?_ _ _;unfold den;rw[List.getD_eq_getElem?_getD];cases hx:(dens q)[q.length]? with
 | none=>trivial
 | some t=>exact zlX q t (List.mem_of_getElem? hx)
end Go.Proofs.YtfjajpnfjjdnpaaGreatDoor

namespace Go.Proofs.YtfjajpnfjjdnpaaGreatDoor
open Go.RowKit Num Nds Txt
theorem znw {q:List Nd}(hq:zaa q=true):zaq q≤255:=by
 suffices h:∀k,k≤q.length→zaq (q.take k)≤255 by
  have:=h q.length (Nat.le_refl _)
  rwa [List.take_length] at this
 intro k
 induction k with
 | zero=>exact fun _=>by show(0:Int)≤255;omega
 | succ k ih =>
  intro hk;rw[zdB (by omega)];have h1:=ih (by omega);split
  ·rename_i hv;have hf:=zae hq (i:=k) (by omega);have g:∀i,i<4→(at_ q k).kid i≤255:=fun i hi=>by
    have:=zag hf hi;rw[hv] at this;unfold kidB at this;simp at this;omega
   have g0:=g 0 (by omega);have g1:=g 1 (by omega);have g2:=g 2 (by omega);have g3:=g 3 (by omega);have e:maxN (at_ q k)≤255:=by
    unfold maxN;have e0:(at_ q k).a≤255:=g0;have e1:(at_ q k).b≤255:=g1;have e2:(at_ q k).c≤255:=g2;have e3:(at_ q k).d≤255:=g3;omega
   omega
  ·exact h1
end Go.Proofs.YtfjajpnfjjdnpaaGreatDoor
