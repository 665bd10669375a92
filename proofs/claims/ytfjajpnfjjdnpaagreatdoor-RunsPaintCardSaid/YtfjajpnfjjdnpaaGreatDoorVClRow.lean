import Derived.Test.YtfjajpnfjjdnpaaGreatDoorVClM
import Derived.Test.YtfjajpnfjjdnpaaGreatDoorVBigRow
import Derived.Test.YtfjajpnfjjdnpaaGreatDoorVNdRow

set_option linter.unusedVariables false
set_option linter.unusedSimpArgs false
set_option maxRecDepth 100000
set_option maxHeartbeats 6400000
namespace Go.Proofs.YtfjajpnfjjdnpaaGreatDoor
open Go.ChangeShapes Go.WideShapes Go.ChangeAt Go.RowKit Go.Deep Num
theorem zjy:Tryz.prog.cellsOf 4=1:=by kernel_rfl
theorem zjz:Tryz.prog.cellsOf 46=1:=by kernel_rfl
section
variable {H:Type} {enc:TypeId × Value→H} {W:World} {base:Nat}
theorem znP {fuel:Nat}{cs:List Value}{x:DataW H × List MemPlace}(h:DataW.trod enc Tryz.prog W base (fun _=>true) true fuel 48 cs=some x)(hlt:∀z∈x.2,z.block<W.heap.size) :
  ∃s A c xs,cs=[.bool s,.slice A xs.length c]∧Us W A c xs:=by
 obtain⟨xs,n,_,rfl,hlen,hxl,hf⟩:=DataW.trod_struct Tryz.underlying48 h;rw[zeQ] at hlen;have h0:DataW.trod enc Tryz.prog W base (fun _=>true) true n 4 ((cs.drop 0).take (Tryz.prog.cellsOf 4))=xs[0]?:=hf 0 _ rfl;have h1:DataW.trod enc Tryz.prog W base (fun _=>true) true n 46 ((cs.drop 1).take (Tryz.prog.cellsOf 46))=xs[1]?:=hf 1 _ rfl;rw[zjy] at h0;rw[zjz] at h1
 match cs,hlen with
 | [v0,v1],_ =>
  match xs,hxl with
  | [y0,y1],_ =>
   have h0':DataW.trod enc Tryz.prog W base (fun _=>true) true n 4 [v0]=some y0:=h0;have h1':DataW.trod enc Tryz.prog W base (fun _=>true) true n 46 [v1]=some y1:=h1;obtain⟨b,e0,rfl⟩:=DataW.trod_bool Tryz.underlying4 h0';simp at e0;subst e0;obtain⟨A,c,us,rfl,hU⟩:=zpB h1' (fun z hz=>hlt z (by simp[hz]));exact⟨b,A,c,us,rfl,hU⟩
end
end Go.Proofs.YtfjajpnfjjdnpaaGreatDoor
