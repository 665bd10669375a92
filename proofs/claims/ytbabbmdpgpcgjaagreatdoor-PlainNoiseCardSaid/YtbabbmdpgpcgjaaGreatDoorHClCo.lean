import Derived.Test.YtbabbmdpgpcgjaaGreatDoorHNcLn

set_option linter.unusedVariables false
set_option linter.unusedSimpArgs false
set_option maxRecDepth 100000
set_option maxHeartbeats 6400000
namespace Go.Proofs.YtbabbmdpgpcgjaaGreatDoor
open Go.RowKit Num Nds
theorem zor {q:List Nd}(hq:zai q=true):0≤zaO q∧zaO q≤1329:=by
 unfold zaO;by_cases h0:q=[]
 ·rw[if_pos h0];omega
 ·rw[if_neg h0];have h1:=List.length_pos_iff.2 h0;have h2:=zaH (zaq hq (i:=q.length-1) (by omega));omega
def inR (X:Int):Prop := -p2 1328≤X∧X<p2 1328
instance (X:Int):Decidable (inR X):=inferInstanceAs (Decidable (_∧_))
theorem zju (w:World)(g o p:Nat)(a b:Value):w.grownBy ((w.setCell ⟨g,o,none⟩ a).setCell ⟨g,p,none⟩ b) (some g):=zks (zdl w g o a) (zdl _ g p b)
end Go.Proofs.YtbabbmdpgpcgjaaGreatDoor
