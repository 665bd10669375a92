import Derived.Test.YtikehjindobpkaaGreatGNcPB
import Derived.Test.YtikehjindobpkaaGreatGNcOr
import Derived.Laws.EntriesVeiled
import Derived.LoopN

set_option linter.unusedVariables false
set_option linter.unusedSimpArgs false
set_option maxRecDepth 100000
set_option maxHeartbeats 6400000
namespace Go.Proofs.YtikehjindobpkaaGreat
open Go.RowKit Nds
theorem NdBox.cells {w:World}{g:Nat}{x:Nd}(h:NdBox w g x):w.cell? ⟨g,0,none⟩=some (.int .i64 x.lv)∧w.cell? ⟨g,1,none⟩=some (.int .i64 x.a)∧w.cell? ⟨g,2,none⟩=some (.int .i64 x.b)∧w.cell? ⟨g,3,none⟩=some (.int .i64 x.c)∧w.cell? ⟨g,4,none⟩=some (.int .i64 x.d):=h.at_
end Go.Proofs.YtikehjindobpkaaGreat

namespace Go.Proofs.YtikehjindobpkaaGreat
theorem wpAnyH_states {P:Program}{md:Region.Mode}{ops:Array Oper}{Q:Exit→Act→World→Prop}{S:World→Prop}{T:Type}(rank:T→Nat)(mask:T→Array Bool)(left:T→Nat)(inv:T→Act→World→Prop)
  (h:∀s,(∀s',rank s'<rank s→∀a w,inv s' a w→wpAnyH P md ops Q S (left s') (mask s') a w)→∀a w,inv s a w→wpAnyH P md ops Q S (left s) (mask s) a w) :
  ∀(s:T) (a:Act) (w:World),inv s a w→wpAnyH P md ops Q S (left s) (mask s) a w:=by
 have key:∀(n:Nat) (s:T),rank s≤n→∀(a:Act) (w:World),inv s a w→wpAnyH P md ops Q S (left s) (mask s) a w:=by
  intro n
  induction n with
  | zero=>exact fun s hs=>h s (fun s' hs'=>by omega)
  | succ n ih=>exact fun s hs=>h s (fun s' hs'=>ih s' (by omega))
 exact fun s=>key (rank s) s (Nat.le_refl _)
theorem wpAnyH_states2 {P:Program}{md:Region.Mode}{ops:Array Oper}{Q:Exit→Act→World→Prop}{S:World→Prop}{T:Type}(rank:T→Nat)(mask:T→Array Bool)(left:T→Nat)(inv:T→Act→World→Prop)
  (h:∀s,(∀s' k m,rank s'<rank s→k=left s'→m=mask s'→∀a w,inv s' a w→wpAnyH P md ops Q S k m a w)→∀a w,inv s a w→wpAnyH P md ops Q S (left s) (mask s) a w) :
  ∀(s:T) (k:Nat) (m:Array Bool),k=left s→m=mask s→∀(a:Act) (w:World),inv s a w→wpAnyH P md ops Q S k m a w:=by
 intro s k m hk hm a w hi
 subst hk hm
 exact wpAnyH_states rank mask left inv (fun s ih=>h s (fun s' k m hr hk hm a w hi=>by subst hk hm;exact ih s' hr a w hi)) s a w hi
end Go.Proofs.YtikehjindobpkaaGreat

namespace Go.Proofs.YtikehjindobpkaaGreat
open Go.RowKit Nds
theorem rof_at (A:Option Addr)(c n:Nat)(l:List Nd)(k:Int)(q:List Nd)(qn:Nat)(er:Int)(w:World)(h:Ns w A c l)(hn:l.length=n)(hn9:n≤900000)(hA:A=none→c=0)(hq:ofQ l k=q)(hqn:q.length=qn)(he:ofE l k=er) :
  Calls Tryz.prog 53 #[.slice A n c,.int .i64 k] w fun e w'=>∃A' c',e=.returned (.tuple #[.agg #[.slice A' qn c'],.int .i64 er])∧Ns w' A' c' q∧(A'=none→c'=0)∧Below w.heap.size w w' :=
 (rof_any A c n l k w h hn hn9 hA).mono fun e w' ⟨A',c',h1,h2,h3,h4⟩=>⟨A',c',by rw[←hqn,←hq,←he];exact h1,by rw[←hq];exact h2,h3,h4⟩
end Go.Proofs.YtikehjindobpkaaGreat

namespace Go.Proofs.YtikehjindobpkaaGreat
open Nds
theorem insC_len:∀(l:List Cl) (c:Cl),(insC l c).length≤l.length+1
 | [],c=>Nat.le_refl _
 | a :: l,c=>by
  have h:=insC_len l c
  unfold insC
  split
  ·rw[List.length_cons,List.length_cons];omega
  ·split
   ·rw[List.length_cons,List.length_cons];omega
   ·rw[List.length_cons,List.length_cons];omega
theorem insF_len:∀(l m:List Cl),(l.foldl insC m).length≤m.length+l.length
 | [],m=>Nat.le_refl _
 | c :: l,m=>by
  have h:=insF_len l (insC m c)
  have h2:=insC_len m c
  rw[List.foldl_cons,List.length_cons];omega
theorem lastF_le (l:List Cl):(lastF l).length≤l.length:=by
 unfold lastF insAll
 have h:=insF_len l []
 have h2:=List.length_filter_le (fun c:Cl=>c.s != 0) (l.foldl insC [])
 simp only[List.length_nil,Nat.zero_add] at h
 exact Nat.le_trans h2 h
theorem count_pos:∀(t:Tr) (n:Nat),wfT (n:Int) t→t≠.e→1≤countT t
 | .e,_,_,h=>absurd rfl h
 | .s k,_,_,_=>Nat.le_refl 1
 | .n v a b c d,n,h,_=>by
  have hv:=h.1
  obtain⟨m,rfl,hv2,ha,hb,hc,hd,_⟩:=wf_n h
  obtain⟨i,hi,hne⟩:=wf_all h
  show 1≤countT a+countT b+countT c+countT d
  match i,hi with
  | 0,_=>have:=count_pos a m ha hne;omega
  | 1,_=>have:=count_pos b m hb hne;omega
  | 2,_=>have:=count_pos c m hc hne;omega
  | 3,_=>have:=count_pos d m hd hne;omega
theorem add_le (out:List Nd)(x:Nd):(add out x).1.length≤out.length+1:=by
 unfold add
 split
 ·simp
 ·exact Nat.le_succ _
theorem enc_cnt:∀(t:Tr) (n:Nat)(out:List Nd),wfT (n:Int) t→(enc t out).1.length≤out.length+n*countT t
 | .e,n,out,_=>Nat.le_add_right _ _
 | .s k,n,out,_=>Nat.le_add_right _ _
 | .n v a b c d,n,out,h=>by
  have hp:1≤countT a+countT b+countT c+countT d:=count_pos (.n v a b c d) n h (by simp)
  obtain⟨m,rfl,hv2,ha,hb,hc,hd,_⟩:=wf_n h
  have h0:=enc_cnt a m out ha
  have h1:=enc_cnt b m (outK (Tr.n v a b c d).q out 1) hb
  have h2:=enc_cnt c m (outK (Tr.n v a b c d).q out 2) hc
  have h3:=enc_cnt d m (outK (Tr.n v a b c d).q out 3) hd
  have h4:=add_le (outK (Tr.n v a b c d).q out 4) (topN (Tr.n v a b c d).q out v)
  have e1:(outK (Tr.n v a b c d).q out 1).length=(enc a out).1.length:=rfl
  have e2:(outK (Tr.n v a b c d).q out 2).length=(enc b (outK (Tr.n v a b c d).q out 1)).1.length:=rfl
  have e3:(outK (Tr.n v a b c d).q out 3).length=(enc c (outK (Tr.n v a b c d).q out 2)).1.length:=rfl
  have e4:(outK (Tr.n v a b c d).q out 4).length=(enc d (outK (Tr.n v a b c d).q out 3)).1.length:=rfl
  rw[enc_n];show(add (outK (Tr.n v a b c d).q out 4) (topN (Tr.n v a b c d).q out v)).1.length≤out.length+(m+1)*(countT a+countT b+countT c+countT d)
  rw[Nat.add_mul,Nat.one_mul,Nat.mul_add,Nat.mul_add,Nat.mul_add];omega
theorem QuadOf.lenF {X:List Cl}{out:List Nd}(h:QuadOf (lastF X) out):countT (Nds.den out out.length)=(lastF X).length∧out.length≤1329*(lastF X).length:=by
 have h1:=cells_len h.good.1
 rw[h.cells (lastF_srt X) fun c hc=>((lastF_spec X).2.2 c hc).1] at h1
 refine⟨h1.symm,?_⟩
 obtain⟨t,n,w1,w2,w3,rfl,w5⟩:=h
 by_cases he:t=.e
 ·subst he;exact Nat.zero_le _
 ·obtain⟨_,_,hd⟩:=enc_root w1 he w2
  rw[hd] at h1;have h2:=enc_cnt t n [] w1
  rw[h1];have hn:n≤1329:=by
   cases t with
   | e=>exact absurd rfl he
   | s k=>exact absurd rfl (w2 k)
   | n v a b c d =>
    have:=w1.1
    have:=w1.2.2.1
    omega
  have h3:=Nat.mul_le_mul_right (countT t) hn
  rw[List.length_nil,Nat.zero_add] at h2;exact Nat.le_trans h2 h3
end Go.Proofs.YtikehjindobpkaaGreat

namespace Go.Proofs.YtikehjindobpkaaGreat
open Go.RowKit Nds
theorem ss_end {l:List Nd}{t:Tr}:∀(m:Nat) (cur:List Nd) (p:Nat),(at_ cur p).lv≤m→SS l t cur p→∃cur' p',SS l t cur' p'∧holT (den cur' (p'+1))=false:=by
 intro m
 induction m with
 | zero =>
  intro cur p hm h
  have:=fit_lv (loose_fit h.1 h.2.1)
  omega
 | succ m ih =>
  intro cur p hm h
  cases hh:holT (den cur (p+1)) with
  | false=>exact⟨cur,p,h,hh⟩
  | true =>
   refine ih _ _ ?_ (h.next hh)
   rw[at_last];show(at_ cur p).lv-1≤_
   omega
theorem ofL_len {l:List Nd}(hl:looseB l=true){n:Nat}(hn:n≤l.length):(OfL l n).length≤l.length+1328:=by
 cases n with
 | zero =>
  unfold OfL;rw[den_zero,shr_e];exact Nat.zero_le _
 | succ p =>
  by_cases he:den l (p+1)=.e
  ·unfold OfL;rw[he,shr_e];exact Nat.zero_le _
  ·have hs:=SS.start hl (p:=p) (by omega) he
   have hv:=fit_lv (loose_fit hl (i:=p) (by omega))
   obtain⟨cur,q,h1,h2⟩:=ss_end 1329 l p hv.2 hs
   have h3:=h1.len
   have h4:=inv_enc h1.1 (q+1) [] (by have:=h1.2.1;omega) (inv_nil cur)
   have h5:=h4.len
   have h6:den cur (q+1)=shrT (den l (p+1)):=by rw[←h1.2.2.2.1,shr_done h2]
   rw[h6] at h5;exact Nat.le_trans h5 h3
theorem ofQ_len (l:List Nd)(k:Int):(ofQ l k).length≤l.length+1328:=by
 unfold ofQ
 split
 ·rename_i h
  unfold okB at h;rw[Bool.and_eq_true,decide_eq_true_iff] at h;exact ofL_len h.1 (by omega)
 ·exact Nat.zero_le _
end Go.Proofs.YtikehjindobpkaaGreat
