import Derived.Lib.Builder
import Derived.Lib.FrozenHead2
import Derived.Lib.UnsafeStr
import Derived.Lib.AppendStr
import Derived.Laws.Externs
import Derived.Shelf.RegionOpenPlain
import Derived.Laws.IdiomCopy
import Derived.Laws.BitsLemmas
import Derived.Test.YtfjajpnfjjdnpaaGreatDoorUGdT
import Derived.Lib.IndexBytes

set_option linter.unusedVariables false
set_option linter.unusedSimpArgs false
set_option maxRecDepth 100000
set_option maxHeartbeats 6400000
namespace Go.Proofs.YtfjajpnfjjdnpaaGreatDoor
open Go.RowKit
def Ke (b:Nat)(w w':World):Prop:=Below b w w'∧Lib.OthersKept 5 (some b) w w'
theorem Ke.refl (b:Nat)(w:World):Ke b w w:=⟨Below.refl _ _,Lib.OthersKept.refl _ _ _⟩
theorem zjC:(Tryz.prog.info? 5).map (fun i=>(i.zero,i.size,i.bytes))=some (some (.int .u8 0),1,1):=by kernel_rfl
theorem zjD:(Tryz.prog.info? 85).map (·.size)=some 2:=by kernel_rfl
theorem zgM (b:Nat)(w:World)(h0:w.cell? ⟨b,0,none⟩=some (.pointer (some ⟨b,0,none⟩))) :
  Calls Tryz.prog 135 #[.pointer (some ⟨b,0,none⟩)] w fun e w'=>e=.returned (.tuple #[])∧w'=w:=by
 obtain⟨j,hj,-⟩:=Option.map_eq_some_iff.1 zjD;go_enter Tryz.func135,Tryz.ntmps135;go_wp2;rw[Lib.run_neq_ptr_same w _ Tryz.underlying82 hj];go_wp2;go_end0;exact⟨rfl,rfl⟩
end Go.Proofs.YtfjajpnfjjdnpaaGreatDoor

namespace Go.Proofs.YtfjajpnfjjdnpaaGreatDoor
open Go.RowKit Lib
theorem zfP {w:World}{base:Nat}{e:TypeId}{size:Nat}{v:Value}{n:Nat}{xs:List Value}(h:w.ownsRowF base e size v n xs):∃A c,v=.slice A n c:=by
 rcases h.2 with⟨hv,h0⟩|⟨g,cap,cur,fz,hv,-⟩
 ·exact⟨none,0,by rw[hv,h0]⟩
 ·exact⟨_,_,hv⟩
def zpS:Value→Nat
 | .string t=>t.size
 | _=>0
theorem zgN (t:ByteArray)(m:Nat):(t.extract 0 m).data.toList=t.data.toList.take m:=by
 simp[ByteArray.data_extract]
theorem zlV {s t:ByteArray}(h:s.data.toList=t.data.toList):s=t:=by
 obtain⟨⟨a⟩⟩:=s;obtain⟨⟨b⟩⟩:=t;simp at h;rw[h]
theorem zpe {t:ByteArray}{m:Nat}(h:t.size=m+1)(hlt:m<t.size):t.data.toList=t.data.toList.take m++[t[m]'hlt]:=by
 have hl:t.data.toList.length=m+1:=(zcr t).trans h;have h1:=ziB (s:=t) (k:=m) hlt;have h2:=List.take_add_one (l:=t.data.toList) (i:=m);rw[h1,List.take_of_length_le (by omega)] at h2;exact h2
end Go.Proofs.YtfjajpnfjjdnpaaGreatDoor
