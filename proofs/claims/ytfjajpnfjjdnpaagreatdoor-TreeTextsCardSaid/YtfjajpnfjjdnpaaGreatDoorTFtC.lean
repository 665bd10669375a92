import Derived.Test.YtfjajpnfjjdnpaaGreatDoorTGdH
import Derived.Lib.Builder
import Derived.Lib.FrozenHead2
import Derived.Lib.UnsafeStr
import Derived.Lib.AppendStr
import Derived.Laws.Externs
import Derived.Shelf.RegionOpenPlain
import Derived.Laws.IdiomCopy
import Derived.Laws.BitsLemmas

set_option linter.unusedVariables false
set_option linter.unusedSimpArgs false
set_option maxRecDepth 100000
set_option maxHeartbeats 6400000
namespace Go.Proofs.YtfjajpnfjjdnpaaGreatDoor
open Nds
theorem zmc (l:List Nd):0≤zaz l:=by
 suffices h:∀k,k≤l.length→0≤zaz (l.take k) by
  have:=h l.length (Nat.le_refl _)
  rwa [List.take_length] at this
 intro k
 induction k with
 | zero=>exact fun _=>Int.le_refl _
 | succ k ih =>
  intro hk;rw[zdH (by omega)];have:=ih (by omega);split <;> omega
end Go.Proofs.YtfjajpnfjjdnpaaGreatDoor

namespace Go.Proofs.YtfjajpnfjjdnpaaGreatDoor
open Go.RowKit Num Nds Txt
theorem znA {q:List Nd}(hq:zaa q=true):zaz q≤255:=by
 suffices h:∀k,k≤q.length→zaz (q.take k)≤255 by
  have:=h q.length (Nat.le_refl _)
  rwa [List.take_length] at this
 intro k
 induction k with
 | zero=>exact fun _=>by show(0:Int)≤255;omega
 | succ k ih =>
  intro hk;rw[zdH (by omega)];have h1:=ih (by omega);split
  ·rename_i hv;have hf:=zad hq (i:=k) (by omega);have g:∀i,i<4→(at_ q k).kid i≤255:=fun i hi=>by
    have:=zag hf hi;rw[hv] at this;unfold kidB at this;simp at this;omega
   have g0:=g 0 (by omega);have g1:=g 1 (by omega);have g2:=g 2 (by omega);have g3:=g 3 (by omega);have e:maxN (at_ q k)≤255:=by
    unfold maxN;have e0:(at_ q k).a≤255:=g0;have e1:(at_ q k).b≤255:=g1;have e2:(at_ q k).c≤255:=g2;have e3:(at_ q k).d≤255:=g3;omega
   omega
  ·exact h1
end Go.Proofs.YtfjajpnfjjdnpaaGreatDoor

namespace Go.Proofs.YtfjajpnfjjdnpaaGreatDoor
open Go.RowKit
def Ke (b:Nat)(w w':World):Prop:=Below b w w'∧Lib.OthersKept 5 (some b) w w'
theorem Ke.refl (b:Nat)(w:World):Ke b w w:=⟨Below.refl _ _,Lib.OthersKept.refl _ _ _⟩
theorem zjC:(Tryz.prog.info? 5).map (fun i=>(i.zero,i.size,i.bytes))=some (some (.int .u8 0),1,1):=by kernel_rfl
theorem zjD:(Tryz.prog.info? 85).map (·.size)=some 2:=by kernel_rfl
theorem zgO (b:Nat)(w:World)(h0:w.cell? ⟨b,0,none⟩=some (.pointer (some ⟨b,0,none⟩))) :
  Calls Tryz.prog 135 #[.pointer (some ⟨b,0,none⟩)] w fun e w'=>e=.returned (.tuple #[])∧w'=w:=by
 obtain⟨j,hj,-⟩:=Option.map_eq_some_iff.1 zjD;go_enter Tryz.func135,Tryz.ntmps135;go_wp2;rw[Lib.run_neq_ptr_same w _ Tryz.underlying82 hj];go_wp2;go_end0;exact⟨rfl,rfl⟩
end Go.Proofs.YtfjajpnfjjdnpaaGreatDoor

namespace Go.Proofs.YtfjajpnfjjdnpaaGreatDoor
open Go.RowKit Lib
theorem zfR {w:World}{base:Nat}{e:TypeId}{size:Nat}{v:Value}{n:Nat}{xs:List Value}(h:w.ownsRowF base e size v n xs):∃A c,v=.slice A n c:=by
 rcases h.2 with⟨hv,h0⟩|⟨g,cap,cur,fz,hv,-⟩
 ·exact⟨none,0,by rw[hv,h0]⟩
 ·exact⟨_,_,hv⟩
end Go.Proofs.YtfjajpnfjjdnpaaGreatDoor
