import Derived.Test.YtbabbmdpgpcgjaaGreatDoorHGdY

set_option linter.unusedVariables false
set_option linter.unusedSimpArgs false
set_option maxRecDepth 100000
set_option maxHeartbeats 6400000
namespace Go.Proofs.YtbabbmdpgpcgjaaGreatDoor
open Go.RowKit Num Nds
structure Sx (w W:World)(K:List (Nat × Obj))(G:List (Gr × Int × Int))(Q:List (Option Addr × Nat × List Nd)):Prop where
 b:Below w.heap.size w W
 bx:∀(i g:Nat) (o:Obj),K[i]?=some (g,o)→W.heap[g]?=some o
 gs:∀(i:Nat) (u:Gr) (X Y:Int),G[i]?=some (u,X,Y)→u.R W X Y
 qs:∀(i:Nat) (A:Option Addr) (c:Nat) (q:List Nd),Q[i]?=some (A,c,q)→Ns W A c q
theorem Sx.start (w:World):Sx w w [] [] []:=⟨Below.refl _ _,fun i g o h=>by simp at h,fun i u X Y h=>by simp at h,fun i A c q h=>by simp at h⟩
theorem Sx.next {w W W1:World}{K:List (Nat × Obj)}{G:List (Gr × Int × Int)}{Q:List (Option Addr × Nat × List Nd)}(s:Sx w W K G Q)(k:Below W.heap.size W W1):Sx w W1 K G Q :=
 ⟨s.b.trans (k.mono s.b.size),fun i g o h=>(k.block _ (zab (s.bx i g o h))).trans (s.bx i g o h),fun i u X Y h=>(s.gs i u X Y h).next k,fun i A c q h=>(s.qs i A c q h).below k⟩
theorem zrD {α:Type}{l:List α}{x y:α}{i:Nat}(h:(l++[x])[i]?=some y):l[i]?=some y∨y=x:=by
 rw[List.getElem?_append] at h;split at h
 ·exact .inl h
 ·refine .inr ?_;have:=List.mem_of_getElem? h;exact(List.mem_singleton.1 this)
theorem Sx.box {w W:World}{K:List (Nat × Obj)}{G:List (Gr × Int × Int)}{Q:List (Option Addr × Nat × List Nd)}(s:Sx w W K G Q)(o:Obj):Sx w (W.alloc o) (K++[(W.heap.size,o)]) G Q:=by
 have t:=s.next ((Below.refl W.heap.size W).alloc (Nat.le_refl _) o);refine⟨t.b,fun i g o' h=>?_,t.gs,t.qs⟩;rcases zrD h with h|h
 ·exact t.bx i g o' h
 ·cases h;exact heap_alloc_new W o
theorem Sx.addQ {w W:World}{K:List (Nat × Obj)}{G:List (Gr × Int × Int)}{Q:List (Option Addr × Nat × List Nd)}(s:Sx w W K G Q){A:Option Addr}{c:Nat}{q:List Nd}(h:Ns W A c q):Sx w W K G (Q++[(A,c,q)]):=by
 refine⟨s.b,s.bx,s.gs,fun i A' c' q' k=>?_⟩;rcases zrD k with k|k
 ·exact s.qs i A' c' q' k
 ·cases k;exact h
end Go.Proofs.YtbabbmdpgpcgjaaGreatDoor

namespace Go.Proofs.YtbabbmdpgpcgjaaGreatDoor.Digs
def size (n:Nat):Nat:=if n=0 then 0 else size (n / 10)+1
theorem zhz:size 0=0:=by unfold size;simp
theorem zjG {n:Nat}(h:0<n):size n=size (n / 10)+1:=by
 rw[size,if_neg (by omega)]
theorem zwN (n:Nat):n<10^size n:=by
 induction n using Nat.strongRecOn with
 | ind n ih =>
  rcases Nat.eq_zero_or_pos n with rfl|hn
  ·rw[zhz];decide
  ·rw[zjG hn,Nat.pow_succ];have:=ih (n / 10) (by omega);omega
theorem zwO {n:Nat}(h:0<n):10^(size n-1)≤n:=by
 induction n using Nat.strongRecOn with
 | ind n ih =>
  rw[zjG h,Nat.add_sub_cancel];rcases Nat.eq_zero_or_pos (n / 10) with h0|h0
  ·rw[h0,zhz];exact h
  ·have h1:=ih (n / 10) (by omega) h0;have h2:=zjG h0;have h3:10^size (n / 10)=10^(size (n / 10)-1)*10:=by rw[←Nat.pow_succ];congr 1;omega
   omega
theorem zwP {n k:Nat}(h:n<10^k):size n≤k:=by
 rcases Nat.eq_zero_or_pos n with rfl|hn
 ·rw[zhz];exact Nat.zero_le _
 ·have h1:=zwO hn;rcases Nat.lt_or_ge k (size n) with hk|hk
  ·have h2:10^k≤10^(size n-1):=Nat.pow_le_pow_right (by decide) (by omega);omega
  ·exact hk
theorem size_eq {n k:Nat}(h:n<10^(k+1))(h2:10^k≤n):size n=k+1:=by
 have h3:=zwP h;have h4:=zwN n;rcases Nat.lt_or_ge k (size n) with hk|hk
 ·omega
 ·have:10^size n≤10^k:=Nat.pow_le_pow_right (by decide) hk;omega
end Go.Proofs.YtbabbmdpgpcgjaaGreatDoor.Digs
