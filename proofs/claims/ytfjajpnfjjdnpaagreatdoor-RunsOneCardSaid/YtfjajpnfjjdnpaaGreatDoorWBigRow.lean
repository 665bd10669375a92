import Derived.Test.YtfjajpnfjjdnpaaGreatDoorWRow
import Derived.Lib.SmallJoins

set_option linter.unusedVariables false
set_option linter.unusedSimpArgs false
set_option maxRecDepth 100000
set_option maxHeartbeats 6400000
namespace Go.Proofs.YtfjajpnfjjdnpaaGreatDoor
open Go.ChangeShapes Go.WideShapes Go.ChangeAt Go.RowKit Num
theorem zfs:Tryz.prog.cellsOf 48=2:=by kernel_rfl
theorem zri {H:Type}{enc:TypeId × Value→H}{W:World}{base fuel:Nat}{v:Value}{y:DataW H × List MemPlace}(hf:DataW.trod enc Tryz.prog W base (fun _=>true) true fuel 46 [v]=some y)(hlt:∀z∈y.2,z.block<W.heap.size):∃A c xs,v=.slice A xs.length c∧Us W A c xs:=by
 obtain⟨a0,len,cap,hv⟩:=Joins.slice_form Tryz.underlying46 hf;simp at hv;subst hv;rcases open_ints Tryz.underlying46 Tryz.underlying137 zmX hf with⟨hcs,hx⟩|⟨a,len',cap',zs,hcs,_,hl,hmx,hz,hx,hcell,hwz⟩
 ·simp at hcs;obtain⟨rfl,rfl,rfl⟩:=hcs;exact⟨none,0,[],rfl,Us.nil _⟩
 ·simp at hcs;obtain⟨rfl,rfl,rfl⟩:=hcs;subst hx;simp only[if_true] at hz;have hzw:∀n∈zs,0≤n∧n<4294967296:=fun n hn=>by
   have:=hwz n hn;have h1:IntKind.u32.min=0:=rfl;have h2:IntKind.u32.max=4294967295:=rfl;simp[Lit.wf,h1,h2] at this;omega
  obtain⟨b,off,spot⟩:=a;have hlen:((zs.take len).map Int.toNat).length=len:=by simp;omega
  refine⟨some ⟨b,off,spot⟩,cap,(zs.take len).map Int.toNat,by rw[hlen],?_,by simp;omega,hmx,fun hn=>?_⟩
  ·intro x hx;obtain⟨n,hn,rfl⟩:=List.mem_map.1 hx;have:=hzw n (List.mem_of_mem_take hn);omega
  ·have h0:0<zs.length:=by
    simp only[List.length_map] at hn;rw[List.length_take] at hn;omega
   have hspot:spot=none:=by simpa [Addr.add] using World.cell?_spot (hcell 0 h0)
   subst hspot;have hc0:=hcell 0 h0;refine⟨b,off,rfl,?_,fun j u hu=>?_⟩
   ·have:=zao hc0
    rwa [add_plain] at this
   ·obtain⟨x,hx,rfl⟩:=by
     rw[List.getElem?_map] at hu;exact Option.map_eq_some_iff.1 hu
    rw[List.getElem?_map] at hx;obtain⟨n,hn',rfl⟩:=Option.map_eq_some_iff.1 hx;rw[List.getElem?_take] at hn';split at hn'
    ·have hj:=(List.getElem?_eq_some_iff.1 hn').1;have:=hcell j hj;rw[add_plain,List.getD_eq_getElem?_getD,hn'] at this;rw[this];have hb:=hzw n (List.mem_of_getElem? hn');simp only[Option.getD_some,u32v];congr 2;omega
    ·cases hn'
end Go.Proofs.YtfjajpnfjjdnpaaGreatDoor
