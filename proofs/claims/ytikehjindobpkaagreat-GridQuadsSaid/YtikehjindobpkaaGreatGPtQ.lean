import GoSem.Claim
import Derived.Laws.RangeAny
import Derived.Laws.Strings
import Derived.Laws.Strings2
import Derived.Laws.Strings3
import Derived.Lib.Bytealg
import Derived.Lib.OthersKept
import Derived.Test.YtikehjindobpkaaGreatGTxt
import Derived.Test.YtikehjindobpkaaGreatGClRow

set_option linter.unusedVariables false
set_option linter.unusedSimpArgs false
set_option maxRecDepth 100000
set_option maxHeartbeats 6400000
namespace Go.Proofs.YtikehjindobpkaaGreat
open Go.RowKit
theorem zqf {s:ByteArray}{k:Nat}(h:k<s.size):s.data.toList[k]?=some (s[k]'h):=by
 rw[List.getElem?_eq_getElem (by simpa using h)];rfl
theorem ztg (s:ByteArray):s.data.toList.length=s.size:=by simp
end Go.Proofs.YtikehjindobpkaaGreat

namespace Go.Proofs.YtikehjindobpkaaGreat
open Go.RowKit Num Nds
theorem zqg {m:Nat}{t:Tr}(hw:wfT ((m:Int)+1) t)(h:t≠.e):t.lv=(m:Int)+1:=by
 cases t with
 | e=>exact absurd rfl h
 | s k=>exact absurd hw.1 (by omega)
 | n v a b c d =>
  have hw':wfT (((m+1:Nat)):Int) (.n v a b c d):=hw;obtain⟨m',hm,rfl,-⟩:=wf_n hw';have:m=m':=by omega
  subst this;rfl
theorem BxV.cells {q:List Nd}(hg:zao q){ok:Bool}{X Y V H:Int}(b:BxV q q.length ok X Y V H) :
  (q=[]∧ok=false∧X=0∧Y=0∧V=0∧H=0)∨(ok=true∧(∀x y,zaH (den q q.length) x y≠0→X≤x∧x≤X+V-1∧Y≤y∧y≤Y+H-1) ∧
   (∃x y,zaH (den q q.length) x y≠0∧x=X)∧(∃x y,zaH (den q q.length) x y≠0∧x=X+V-1)∧(∃x y,zaH (den q q.length) x y≠0∧y=Y)∧∃x y,zaH (den q q.length) x y≠0∧y=Y+H-1):=by
 rcases b with⟨h0,h1⟩|⟨h0,rfl,h1⟩
 ·exact .inl ⟨List.length_eq_zero_iff.1 h0,h1⟩
 ·refine .inr ⟨rfl,?_⟩;have hlv:=zaJ (zai hg.1 (i:=q.length-1) (by omega));obtain⟨m,hm⟩:∃m:Nat,(at_ q (q.length-1)).lv=(m:Int)+1:=⟨(at_ q (q.length-1)).lv.toNat-1,by omega⟩;have hw:=zbK hg.1 (q.length-1) (by omega);rw[Nat.sub_add_cancel (by omega),hm] at hw;have hne:=(hg.2 (q.length-1) (by omega)).1;rw[Nat.sub_add_cancel (by omega)] at hne;have hn:(den q q.length).lv.toNat=(at_ q (q.length-1)).lv.toNat:=by rw[zqg hw hne,hm]
  obtain⟨t1,t2,t3,t4⟩:=h1.touch hn;exact⟨fun x y h=>h1.cell hn h,t1,t2,t3,t4⟩
theorem zwn {n:Int}(h : -8≤n∧n<8) : -p2 1330≤n∧n≤p2 1330:=by
 have h1:=zar (show 3≤1330 by omega);have h2:p2 3=8:=rfl;omega
theorem zcI {s:Bool}{xs:List Nat}(h:zaq s xs):zaM s xs=true:=by
 unfold zaM;rw[Bool.and_eq_true];constructor
 ·have h1:=h.1;unfold zaT at h1;rw[List.getLast?_eq_getElem?] at h1;unfold zeC;rw[Bool.or_eq_true];rcases Nat.eq_zero_or_pos xs.length with h0|h0
  ·exact .inl (by rw[h0];rfl)
  ·right;rw[bne_iff_ne];rw[List.getElem?_eq_getElem (by omega)] at h1 ⊢;exact fun e=>h1 (by rw[←e];rfl)
 ·cases s
  ·rfl
  ·have:=h.2 rfl;simp;exact List.length_pos_iff.2 this
end Go.Proofs.YtikehjindobpkaaGreat
