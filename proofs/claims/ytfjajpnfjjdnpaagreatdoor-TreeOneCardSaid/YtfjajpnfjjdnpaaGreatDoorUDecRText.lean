import Derived.Test.YtfjajpnfjjdnpaaGreatDoorUGdY

set_option linter.unusedVariables false
set_option linter.unusedSimpArgs false
set_option maxRecDepth 100000
set_option maxHeartbeats 6400000
namespace Go.Proofs.YtfjajpnfjjdnpaaGreatDoor
open Go.RowKit Num Nds
structure Sx (w W:World)(K:List (Nat × Obj))(G:List (Gr × Int × Int))(Q:List (Option Addr × Nat × List Nd)):Prop where
 b:Below w.heap.size w W
 bx:∀(i g:Nat) (o:Obj),K[i]?=some (g,o)→W.heap[g]?=some o
 gs:∀(i:Nat) (u:Gr) (X Y:Int),G[i]?=some (u,X,Y)→u.R W X Y
 qs:∀(i:Nat) (A:Option Addr) (c:Nat) (q:List Nd),Q[i]?=some (A,c,q)→Ns W A c q
theorem Sx.start (w:World):Sx w w [] [] []:=⟨Below.refl _ _,fun i g o h=>by simp at h,fun i u X Y h=>by simp at h,fun i A c q h=>by simp at h⟩
theorem Sx.next {w W W1:World}{K:List (Nat × Obj)}{G:List (Gr × Int × Int)}{Q:List (Option Addr × Nat × List Nd)}(s:Sx w W K G Q)(k:Below W.heap.size W W1):Sx w W1 K G Q :=
 ⟨s.b.trans (k.mono s.b.size),fun i g o h=>(k.block _ (zdC (s.bx i g o h))).trans (s.bx i g o h),fun i u X Y h=>(s.gs i u X Y h).next k,fun i A c q h=>(s.qs i A c q h).below k⟩
theorem zgL {α:Type}{l:List α}{x y:α}{i:Nat}(h:(l++[x])[i]?=some y):l[i]?=some y∨y=x:=by
 rw[List.getElem?_append] at h;split at h
 ·exact .inl h
 ·refine .inr ?_;have:=List.mem_of_getElem? h;exact(List.mem_singleton.1 this)
theorem Sx.box {w W:World}{K:List (Nat × Obj)}{G:List (Gr × Int × Int)}{Q:List (Option Addr × Nat × List Nd)}(s:Sx w W K G Q)(o:Obj):Sx w (W.alloc o) (K++[(W.heap.size,o)]) G Q:=by
 have t:=s.next ((Below.refl W.heap.size W).alloc (Nat.le_refl _) o);refine⟨t.b,fun i g o' h=>?_,t.gs,t.qs⟩;rcases zgL h with h|h
 ·exact t.bx i g o' h
 ·cases h;exact heap_alloc_new W o
theorem Sx.addQ {w W:World}{K:List (Nat × Obj)}{G:List (Gr × Int × Int)}{Q:List (Option Addr × Nat × List Nd)}(s:Sx w W K G Q){A:Option Addr}{c:Nat}{q:List Nd}(h:Ns W A c q):Sx w W K G (Q++[(A,c,q)]):=by
 refine⟨s.b,s.bx,s.gs,fun i A' c' q' k=>?_⟩;rcases zgL k with k|k
 ·exact s.qs i A' c' q' k
 ·cases k;exact h
end Go.Proofs.YtfjajpnfjjdnpaaGreatDoor

namespace Go.Proofs.YtfjajpnfjjdnpaaGreatDoor
open Go.RowKit Num Nds Txt
theorem Ns.patb {w:World}{A A0:Option Addr}{c n0 c0 g k:Nat}{l:List Nd}{u:Value}{s0:ByteArray}{t:TypeId}(h:Ns w A c l)(hb:w.heap[g]?=some (.cells #[.string s0,.slice A0 n0 c0] t)):Ns (w.setCell ⟨g,k,none⟩ u) A c l :=
 ⟨h.1,h.2.1,h.2.2.1,fun h0=>by
  obtain⟨b,off,e,hlt,hc⟩:=h.2.2.2 h0;have hne:b≠g:=fun e2=>by
   subst e2;have h1:=(hc 0 h0).1;rw[cell_of_row w b _ _ _ (0,0) hb] at h1;rcases off with _|_|off
   ·simp at h1
   ·simp at h1
   ·simp at h1
  exact⟨b,off,e,by simpa [World.setCell] using hlt,fun i hi=>(hc i hi).below (Below.heap_setCell w ⟨g,k,none⟩ u b hne)⟩⟩
def zqs (s:ByteArray)(l:List Cv)(most:Int)(w:World)(e:Ending)(w':World):Prop :=
 ∃A' c' qn q ok,e=.returned (.tuple #[.agg #[.string s,.slice A' qn c'],.bool (ok&&zcq s.data.toList)])∧q.length=qn∧Ns w' A' c' q∧(A'=none→c'=0)∧Below w.heap.size w w'∧ok=mayB l most∧(ok=false→q=[])∧(ok=true→zcz (zaS (l.map Cv.cl)) q)
theorem zjB (A:Option Addr)(c n:Nat)(most:Int)(s:ByteArray)(l:List Cv)(w:World)(hs:s.size≤maxLen)(h:Cs w A c l)(hn:l.length=n)(hm:most≤600) :
  Calls Tryz.prog 13 #[.string s,.slice A n c,.int .i64 most] w (zqs s l most w):=by
 have hcap:=h.cap;rw[hn] at hcap;have hb:=(Below.refl w.heap.size w).alloc (Nat.le_refl _) (.cells #[.string ⟨#[]⟩,.slice none 0 0] 30);have hq:=heap_alloc_new w (.cells #[.string ⟨#[]⟩,.slice none 0 0] 30);have HC:=Hh (h.below hb);have HN:=Hh hn;have HB:=Hh hb;have HQ:=Hh hq;have HS:=Hh hs;obtain⟨R,hR⟩:∃R,R=zcq s.data.toList:=⟨_,rfl⟩;have HR:=Hh hR;have q0:True:=trivial;clear h hn hb hq hs hR;go_enter Tryz.func13,Tryz.ntmps13;go_upto_region 2 with(have _t:=q0;go_at_call 49;clear _t;go_loud (refine(zlR A c n most l _ HC.out HN.out hm).mono ?_;rintro e w2 ⟨A5,c5,qn,q,ok,rfl,l5,n5,a5,b5,hok,hno,hqo⟩;have hc5:=n5.cap;rw[l5] at hc5;have H5:=Hh l5;have N5:=Hh n5;have A5':=Hh a5;have L5:=Hh b5.size;have B5:=Hh (HB.out.trans (b5.mono HB.out.size));have HQ:=Hh ((b5.block _ (zdC HQ.out)).trans HQ.out);have OK:=Hh hok;have NO:=Hh hno;have QO:=Hh hqo;clear l5 n5 a5 b5 hok hno hqo;have q1:=q0;clear q0))
 have hb2:=(Below.refl w2.heap.size w2).alloc (Nat.le_refl _) (.cells #[.slice A5 qn c5] 28);have N6:=Hh (N5.out.below hb2);have B6:=Hh (B5.out.trans (hb2.mono B5.out.size));have Q6:=Hh ((hb2.block _ (zdC HQ.out)).trans HQ.out);clear hb2 HQ B5 N5;obtain⟨W0,hW0⟩:∃W0:World,W0=(w2.alloc (.cells #[.slice A5 qn c5] 28)).drew:=⟨_,rfl⟩;have hd:=Below.drew' (Below.refl (w2.alloc (.cells #[.slice A5 qn c5] 28)).heap.size (w2.alloc (.cells #[.slice A5 qn c5] 28)));rw[←hW0] at hd;have hS0:=zar ((hd.block _ (by simp)).trans (heap_alloc_new w2 (.cells #[.slice A5 qn c5] 28)));have N7:=Hh (N6.out.below hd);have B7:=Hh (B6.out.trans (hd.mono B6.out.size));have Q7:=(hd.block _ (zdC Q6.out)).trans Q6.out;obtain⟨r0,r1⟩:=zav Q7;have r2:=frozen_of_row W0 w.heap.size 0 _ _ Q7;have r3:=frozen_of_row W0 w.heap.size 1 _ _ Q7;have hne:w.heap.size<w2.heap.size:=by have:=L5.out;rw[World.size_alloc] at this;omega
 have Q8:=Hh Q7;clear N6 B6 Q6 hd Q7;cases hok:ok with
 | false =>
  subst hok;refine wp_region_noPanic ?_;refine wp_region_held (S:=fun w'=>w'.cell? ⟨w2.heap.size,0,none⟩=some (.slice A5 qn c5)) (by kernel_rfl) ?_;change wpAnyH _ _ _ _ _ _ _ _ (w2.alloc (.cells #[.slice A5 qn c5] 28)).drew;rw[←hW0];clear hW0;refine Tk1 (v:=?_) 0 hS0 ?_ ?_;rotate_left
  ·rintro w' _;go_simp;first|done|with_reducible rfl|rfl
  simp only[Act.put,LA];refine Tk1 (v:=?_) 1 hS0 ?_ ?_;rotate_left
  ·rintro w' _;go_simp;first|done|with_reducible rfl|rfl
  simp only[Act.put,LA];refine Tk1 (v:=?_) 2 hS0 ?_ ?_;rotate_left
  ·rintro w' _;go_simp;first|done|with_reducible rfl|rfl
  simp only[Act.put,LA];refine Tk1 (v:=?_) 3 hS0 ?_ ?_;rotate_left
  ·rintro w' _;go_simp;first|done|with_reducible rfl|rfl
  simp only[Act.put,LA];refine Tk1 (v:=?_) 4 hS0 ?_ ?_;rotate_left
  ·rintro w' _;go_simp;first|done|with_reducible rfl|rfl
  simp only[Act.put,LA];refine Tk0 5 hS0 ?_;simp only[Act.put,LA];refine Tk0 6 hS0 ?_;simp only[Act.put,LA];refine Tk1 (v:=?_) 7 hS0 ?_ ?_;rotate_left
  ·rintro w' _;go_simp;first|done|with_reducible rfl|rfl
  simp only[Act.put,LA];refine Rd1 8 fun K hK=>?_;go_simp;refine hK.out _ _ (by rw[World.cell?_setCell_other _ _ _ _ (by simp),World.cell?_setCell_other _ _ _ _ (by simp)];exact hS0) (fun hS9=>?_);clear hK K;refine Tk1 (v:=?_) 9 hS9 ?_ ?_;rotate_left
  ·rintro w' _;go_simp;first|done|with_reducible rfl|rfl
  simp only[Act.put,LA];refine wpAnyH_done (by kernel_rfl) ?_ _;refine NoPanic.normal ?_;go_wp2_with fail;have QV:=(heap_setCell_same _ w.heap.size 1 _ _ (.slice A5 qn c5) ((heap_setCell_same W0 w.heap.size 0 _ _ (.string s) Q8.out).trans rfl)).trans rfl;obtain⟨e0,e1⟩:=zav QV;refine bodyPost_ret (v:=.tuple #[.agg #[.string s,.slice A5 qn c5],.bool false]) (by simp[results,Tryz.results13,go_sem,e0,e1]) rfl ?_;have BV:=(B7.out.setCell (p:=⟨w.heap.size,0,none⟩) (Nat.le_refl _) (.string s)).setCell (p:=⟨w.heap.size,1,none⟩) (Nat.le_refl _) (.slice A5 qn c5);refine⟨A5,c5,qn,q,false,rfl,H5.out,?_,A5'.out,BV,OK.out,fun _=>NO.out (by trivial),fun h=>by(cases h)⟩;exact(N7.out.patb Q8.out).patb ((heap_setCell_same W0 w.heap.size 0 _ _ (.string s) Q8.out).trans rfl)
 | true =>
  subst hok;refine wp_region_noPanic ?_;refine wp_region_held (S:=fun w'=>w'.cell? ⟨w2.heap.size,0,none⟩=some (.slice A5 qn c5)) (by kernel_rfl) ?_;change wpAnyH _ _ _ _ _ _ _ _ (w2.alloc (.cells #[.slice A5 qn c5] 28)).drew;rw[←hW0];clear hW0;refine Tk1 (v:=?_) 0 hS0 ?_ ?_;rotate_left
  ·rintro w' _;go_simp;first|done|with_reducible rfl|rfl
  simp only[Act.put,LA];refine Tk1 (v:=?_) 1 hS0 ?_ ?_;rotate_left
  ·rintro w' _;go_simp;first|done|with_reducible rfl|rfl
  simp only[Act.put,LA];refine Tk1 (v:=?_) 2 hS0 ?_ ?_;rotate_left
  ·rintro w' _;go_simp;first|done|with_reducible rfl|rfl
  simp only[Act.put,LA];refine Tk1 (v:=?_) 3 hS0 ?_ ?_;rotate_left
  ·rintro w' _;go_simp;first|done|with_reducible rfl|rfl
  simp only[Act.put,LA];refine Tk1 (v:=?_) 4 hS0 ?_ ?_;rotate_left
  ·rintro w' _;go_simp;first|done|with_reducible rfl|rfl
  simp only[Act.put,LA];refine Tk1 (v:=?_) 5 hS0 ?_ ?_;rotate_left
  ·rintro w' _;go_simp;first|done|with_reducible rfl|rfl
  simp only[Act.put,LA];refine Rd1 6 fun K hK=>?_;go_simp;refine(zkz s _ HS.out).mono ?_;rintro e w3 ⟨rfl,rfl⟩;rw[←HR.out];dsimp only;refine hK.out _ _ hS0 (fun _=>?_);clear hK K;refine Tk1 (v:=?_) 7 hS0 ?_ ?_;rotate_left
  ·rintro w' _;go_simp;first|done|with_reducible rfl|rfl
  simp only[Act.put,LA];refine Rd1 8 fun K hK=>?_;go_simp;refine hK.out _ _ (by rw[World.cell?_setCell_other _ _ _ _ (by simp),World.cell?_setCell_other _ _ _ _ (by simp)];exact hS0) (fun hS9=>?_);clear hK K;refine Tk1 (v:=?_) 9 hS9 ?_ ?_;rotate_left
  ·rintro w' _;go_simp;first|done|with_reducible rfl|rfl
  simp only[Act.put,LA];refine wpAnyH_done (by kernel_rfl) ?_ _;refine NoPanic.normal ?_;go_wp2_with fail;have QV:=(heap_setCell_same _ w.heap.size 1 _ _ (.slice A5 qn c5) ((heap_setCell_same W0 w.heap.size 0 _ _ (.string s) Q8.out).trans rfl)).trans rfl;obtain⟨e0,e1⟩:=zav QV;refine bodyPost_ret (v:=.tuple #[.agg #[.string s,.slice A5 qn c5],.bool R]) (by simp[results,Tryz.results13,go_sem,e0,e1]) rfl ?_;have BV:=(B7.out.setCell (p:=⟨w.heap.size,0,none⟩) (Nat.le_refl _) (.string s)).setCell (p:=⟨w.heap.size,1,none⟩) (Nat.le_refl _) (.slice A5 qn c5);refine⟨A5,c5,qn,q,true,by rw[HR.out];rfl,H5.out,?_,A5'.out,BV,OK.out,fun h=>by(cases h),fun _=>QO.out (by trivial)⟩;exact(N7.out.patb Q8.out).patb ((heap_setCell_same W0 w.heap.size 0 _ _ (.string s) Q8.out).trans rfl)
end Go.Proofs.YtfjajpnfjjdnpaaGreatDoor

namespace Go.Proofs.YtfjajpnfjjdnpaaGreatDoor.Digs
def isd (b:UInt8):Bool:=decide (48≤b.toNat∧b.toNat≤57)
def dig (d:Nat):UInt8:=UInt8.ofNat (48+d)
theorem zlS {d:Nat}(h:d<10):(dig d).toNat=48+d:=by
 unfold dig;simp;omega
theorem zpa {d:Nat}(h:d<10):isd (dig d)=true:=by
 unfold isd;rw[zlS h];simp;omega
def low:Nat→Nat→List UInt8
 | 0,_=>[]
 | k+1,n=>dig (n%10) :: low k (n / 10)
theorem zfO:∀(k n:Nat),(low k n).length=k
 | 0,_=>rfl
 | k+1,n=>by simp[low,zfO k]
theorem zlT:∀(k n:Nat),∀b∈low k n,isd b=true
 | 0,_,b,h=>by cases h
 | k+1,n,b,h=>by
  rcases List.mem_cons.1 h with rfl|h
  ·exact zpa (Nat.mod_lt _ (by decide))
  ·exact zlT k _ b h
def num (l:List UInt8):Nat:=l.foldl (fun a b=>a*10+(b.toNat-48)) 0
theorem znv (l:List UInt8)(b:UInt8):num (l++[b])=num l*10+(b.toNat-48):=by
 unfold num;rw[List.foldl_append];rfl
def size (n:Nat):Nat:=if n=0 then 0 else size (n / 10)+1
theorem zeW:size 0=0:=by unfold size;simp
theorem zen {n:Nat}(h:0<n):size n=size (n / 10)+1:=by
 rw[size,if_neg (by omega)]
theorem zpb (n:Nat):n<10^size n:=by
 induction n using Nat.strongRecOn with
 | ind n ih =>
  rcases Nat.eq_zero_or_pos n with rfl|hn
  ·rw[zeW];decide
  ·rw[zen hn,Nat.pow_succ];have:=ih (n / 10) (by omega);omega
theorem zpc {n:Nat}(h:0<n):10^(size n-1)≤n:=by
 induction n using Nat.strongRecOn with
 | ind n ih =>
  rw[zen h,Nat.add_sub_cancel];rcases Nat.eq_zero_or_pos (n / 10) with h0|h0
  ·rw[h0,zeW];exact h
  ·have h1:=ih (n / 10) (by omega) h0;have h2:=zen h0;have h3:10^size (n / 10)=10^(size (n / 10)-1)*10:=by rw[←Nat.pow_succ];congr 1;omega
   omega
theorem zpd {n k:Nat}(h:n<10^k):size n≤k:=by
 rcases Nat.eq_zero_or_pos n with rfl|hn
 ·rw[zeW];exact Nat.zero_le _
 ·have h1:=zpc hn;rcases Nat.lt_or_ge k (size n) with hk|hk
  ·have h2:10^k≤10^(size n-1):=Nat.pow_le_pow_right (by decide) (by omega);omega
  ·exact hk
def digs (n:Nat):List UInt8:=if n=0 then [48] else (low (size n) n).reverse
def text (s:Bool)(n:Nat):List UInt8:=if s then 45 :: digs n else digs n
theorem zlU:∀(k n:Nat),num (low k n).reverse=n%10^k
 | 0,n=>by simp[low,num];omega
 | k+1,n=>by
  simp only[low,List.reverse_cons];rw[znv,zlU k,zlS (Nat.mod_lt _ (by decide)),Nat.pow_succ,Nat.mul_comm (10^k) 10,Nat.mod_mul];omega
theorem num_digs (n:Nat):num (digs n)=n:=by
 unfold digs;split
 ·rename_i h;rw[h];rfl
 ·rw[zlU,Nat.mod_eq_of_lt (zpb n)]
theorem digs_isd (n:Nat):∀b∈digs n,isd b=true:=by
 unfold digs;split
 ·intro b hb;simp at hb;subst hb;rfl
 ·intro b hb;exact zlT _ _ b (by simpa using hb)
theorem zeX {n:Nat}(h:0<n):(digs n).length=size n:=by
 unfold digs;rw[if_neg (by omega)];simp[zfO]
theorem digs_length_le {n k:Nat}(h:n<10^k)(hk:0<k):(digs n).length≤k:=by
 rcases Nat.eq_zero_or_pos n with rfl|hn
 ·unfold digs;exact hk
 ·rw[zeX hn];exact zpd h
theorem digs_ten {n k:Nat}(hn:0<n)(hk:k<10):digs (n*10+k)=digs n++[dig k]:=by
 have h1:size (n*10+k)=size n+1:=by rw[zen (by omega),show(n*10+k) / 10=n by omega]
 unfold digs;rw[if_neg (by omega),if_neg (by omega),h1];simp only[low,List.reverse_cons];rw[show(n*10+k) / 10=n by omega,show(n*10+k)%10=k by omega]
end Go.Proofs.YtfjajpnfjjdnpaaGreatDoor.Digs
