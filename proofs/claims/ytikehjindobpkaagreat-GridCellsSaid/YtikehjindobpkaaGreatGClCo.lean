import Derived.Test.YtikehjindobpkaaGreatGNcLn
import Derived.ArgAppend

set_option linter.unusedVariables false
set_option linter.unusedSimpArgs false
set_option maxRecDepth 100000
set_option maxHeartbeats 6400000
namespace Go.Proofs.YtikehjindobpkaaGreat
open Go.RowKit Num Nds
theorem level_most {q:List Nd}(hq:looseB q=true):0≤levelZ q∧levelZ q≤1329:=by
 unfold levelZ
 by_cases h0:q=[]
 ·rw[if_pos h0];omega
 ·rw[if_neg h0];have h1:=List.length_pos_iff.2 h0
  have h2:=fit_lv (loose_fit hq (i:=q.length-1) (by omega))
  omega
def inR (X:Int):Prop := -p2 1328≤X∧X<p2 1328
instance (X:Int):Decidable (inR X):=inferInstanceAs (Decidable (_∧_))
end Go.Proofs.YtikehjindobpkaaGreat
