import Derived.Test.YtfjajpnfjjdnpaaGreatDoorWClTr

set_option linter.unusedVariables false
set_option linter.unusedSimpArgs false
set_option maxRecDepth 100000
set_option maxHeartbeats 6400000
namespace Go.Proofs.YtfjajpnfjjdnpaaGreatDoor
open Go.RowKit Nds Num
def okC (v:Cv):Bool:=zdO v.sx v.xs&&zdO v.sy v.ys
theorem zvu {c:Cl}:∀{lv:Nat},lv≤1330→upL c lv≤1329→inL c (upL c lv)=true:=fun {lv}=>by
 suffices h:∀d lv,lv+d=1330→upL c lv≤1329→inL c (upL c lv)=true from fun hl h1=>h (1330-lv) lv (by omega) h1
 intro d
 induction d with
 | zero=>intro lv he h1;rw[zkQ (by omega)] at h1;omega
 | succ d ih =>
  intro lv he h1;cases hq:inL c lv with
  | true=>rw[ziJ hq];exact hq
  | false =>
   rw[ziK (by omega) hq] at h1 ⊢;exact ih (lv+1) (by omega) h1
theorem zvv (c:Cl):∀(lv:Nat),lv≤1330→lv≤upL c lv∧upL c lv≤1330:=fun lv hl=>by
 suffices h:∀d lv,lv+d=1330→lv≤upL c lv∧upL c lv≤1330 from h (1330-lv) lv (by omega)
 intro d
 induction d with
 | zero=>intro lv he;rw[zkQ (by omega)];omega
 | succ d ih =>
  intro lv he;cases hq:inL c lv with
  | true=>rw[ziJ hq];omega
  | false =>
   rw[ziK (by omega) hq];have:=ih (lv+1) (by omega);omega
theorem zvw {c:Cl}{a b:Nat}(h:inL c a=true)(hab:a≤b):inL c b=true:=by
 unfold inL inH at h ⊢;simp only[Bool.and_eq_true,decide_eq_true_eq] at h ⊢;have:=zaM (show a-1≤b-1 by omega);omega
theorem zmk:∀(l:List Cl) (lv:Nat),lv≤1330→lv≤l.foldl (fun lv c=>upL c lv) lv∧l.foldl (fun lv c=>upL c lv) lv≤1330∧(l.foldl (fun lv c=>upL c lv) lv≤1329→∀c∈l,inL c (l.foldl (fun lv c=>upL c lv) lv)=true)
 | [],lv,h=>⟨Nat.le_refl _,h,fun _ c hc=>by cases hc⟩
 | c :: l,lv,h=>by
  obtain⟨g1,g2⟩:=zvv c lv h;obtain⟨h1,h2,h3⟩:=zmk l (upL c lv) g2;refine⟨Nat.le_trans g1 h1,h2,fun h9 d hd=>?_⟩;rcases List.mem_cons.1 hd with rfl|hd
  ·exact zvw (zvu h (Nat.le_trans h1 h9)) h1
  ·exact h3 h9 d hd
theorem zwn {l out:List Cv}(h:out.map Cv.cl=zaP (l.map Cv.cl)){lv:Nat}(hl:lv=zcx (zaP (l.map Cv.cl)))(h9:lv≤1329){x:Cv}(hx:x∈out):inL x.cl lv=true:=by
 have hm:x.cl∈zaP (l.map Cv.cl):=by rw[←h];exact List.mem_map_of_mem hx
 have:=(zmk (zaP (l.map Cv.cl)) 1 (by omega)).2.2;unfold zcx at hl;rw[←hl] at this;exact this h9 _ hm
theorem zcz {s:Bool}{xs:List Nat}(h:zdO s xs=true):zaE s xs:=by
 unfold zdO at h;rw[Bool.and_eq_true] at h;refine⟨?_,fun hs e=>?_⟩
 ·have h1:=h.1;simp[zhz] at h1;unfold zaI;rw[List.getLast?_eq_getElem?];intro e;rcases h1 with rfl|h1
  ·simp at e
  ·rw[e] at h1;exact h1 rfl
 ·subst hs e;simp at h
end Go.Proofs.YtfjajpnfjjdnpaaGreatDoor
