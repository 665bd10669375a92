import Derived.Test.YtfjajpnfjjdnpaaGreatDoorTGdH

set_option linter.unusedVariables false
set_option linter.unusedSimpArgs false
set_option maxRecDepth 100000
set_option maxHeartbeats 6400000
namespace Go.Proofs.YtfjajpnfjjdnpaaGreatDoor
open Go.RowKit Num Nds Txt
theorem Ns.patb {w:World}{A A0:Option Addr}{c n0 c0 g k:Nat}{l:List Nd}{u:Value}{s0:ByteArray}{t:TypeId}(h:Ns w A c l)(hb:w.heap[g]?=some (.cells #[.string s0,.slice A0 n0 c0] t)):Ns (w.setCell ⟨g,k,none⟩ u) A c l :=
 ⟨h.1,h.2.1,h.2.2.1,fun h0=>by
  obtain⟨b,off,e,hlt,hc⟩:=h.2.2.2 h0;have hne:b≠g:=fun e2=>by
   subst e2;have h1:=(hc 0 h0).1;rw[cell_of_row w b _ _ _ (0,0) hb] at h1;rcases off with _|_|off
   ·simp at h1
   ·simp at h1
   ·simp at h1
  exact⟨b,off,e,by simpa [World.setCell] using hlt,fun i hi=>(hc i hi).below (Below.heap_setCell w ⟨g,k,none⟩ u b hne)⟩⟩
def zqC (s:ByteArray)(l:List Cv)(most:Int)(w:World)(e:Ending)(w':World):Prop :=
 ∃A' c' qn q ok,e=.returned (.tuple #[.agg #[.string s,.slice A' qn c'],.bool (ok&&zcu s.data.toList)])∧q.length=qn∧Ns w' A' c' q∧(A'=none→c'=0)∧Below w.heap.size w w'∧ok=mayB l most∧(ok=false→q=[])∧(ok=true→zcF (zaN (l.map Cv.cl)) q)
theorem zjK (A:Option Addr)(c n:Nat)(most:Int)(s:ByteArray)(l:List Cv)(w:World)(hs:s.size≤maxLen)(h:Cs w A c l)(hn:l.length=n)(hm:most≤600) :
  Calls Tryz.prog 13 #[.string s,.slice A n c,.int .i64 most] w (zqC s l most w):=by
 have hcap:=h.cap;rw[hn] at hcap;have hb:=(Below.refl w.heap.size w).alloc (Nat.le_refl _) (.cells #[.string ⟨#[]⟩,.slice none 0 0] 30);have hq:=heap_alloc_new w (.cells #[.string ⟨#[]⟩,.slice none 0 0] 30);have HC:=Hh (h.below hb);have HN:=Hh hn;have HB:=Hh hb;have HQ:=Hh hq;have HS:=Hh hs;obtain⟨R,hR⟩:∃R,R=zcu s.data.toList:=⟨_,rfl⟩;have HR:=Hh hR;have q0:True:=trivial;clear h hn hb hq hs hR;go_enter Tryz.func13,Tryz.ntmps13;go_upto_region 2 with(have _t:=q0;go_at_call 49;clear _t;go_loud (refine(zmb A c n most l _ HC.out HN.out hm).mono ?_;rintro e w2 ⟨A5,c5,qn,q,ok,rfl,l5,n5,a5,b5,hok,hno,hqo⟩;have hc5:=n5.cap;rw[l5] at hc5;have H5:=Hh l5;have N5:=Hh n5;have A5':=Hh a5;have L5:=Hh b5.size;have B5:=Hh (HB.out.trans (b5.mono HB.out.size));have HQ:=Hh ((b5.block _ (zep HQ.out)).trans HQ.out);have OK:=Hh hok;have NO:=Hh hno;have QO:=Hh hqo;clear l5 n5 a5 b5 hok hno hqo;have q1:=q0;clear q0))
 have hb2:=(Below.refl w2.heap.size w2).alloc (Nat.le_refl _) (.cells #[.slice A5 qn c5] 28);have N6:=Hh (N5.out.below hb2);have B6:=Hh (B5.out.trans (hb2.mono B5.out.size));have Q6:=Hh ((hb2.block _ (zep HQ.out)).trans HQ.out);clear hb2 HQ B5 N5;obtain⟨W0,hW0⟩:∃W0:World,W0=(w2.alloc (.cells #[.slice A5 qn c5] 28)).drew:=⟨_,rfl⟩;have hd:=Below.drew' (Below.refl (w2.alloc (.cells #[.slice A5 qn c5] 28)).heap.size (w2.alloc (.cells #[.slice A5 qn c5] 28)));rw[←hW0] at hd;have hS0:=zaK ((hd.block _ (by simp)).trans (heap_alloc_new w2 (.cells #[.slice A5 qn c5] 28)));have N7:=Hh (N6.out.below hd);have B7:=Hh (B6.out.trans (hd.mono B6.out.size));have Q7:=(hd.block _ (zep Q6.out)).trans Q6.out;obtain⟨r0,r1⟩:=zcG Q7;have r2:=frozen_of_row W0 w.heap.size 0 _ _ Q7;have r3:=frozen_of_row W0 w.heap.size 1 _ _ Q7;have hne:w.heap.size<w2.heap.size:=by have:=L5.out;rw[World.size_alloc] at this;omega
 have Q8:=Hh Q7;clear N6 B6 Q6 hd Q7;cases hok:ok with
 | false =>
  subst hok;refine wp_region_noPanic ?_;refine wp_region_held (S:=fun w'=>w'.cell? ⟨w2.heap.size,0,none⟩=some (.slice A5 qn c5)) (by kernel_rfl) ?_;change wpAnyH _ _ _ _ _ _ _ _ (w2.alloc (.cells #[.slice A5 qn c5] 28)).drew;rw[←hW0];clear hW0;refine Tk1 (v:=?_) 0 hS0 ?_ ?_;rotate_left
  ·rintro w' _;go_simp;first|done|with_reducible rfl|rfl
  simp only[Act.put,LA];refine Tk1 (v:=?_) 1 hS0 ?_ ?_;rotate_left
  ·rintro w' _;go_simp;first|done|with_reducible rfl|rfl
  simp only[Act.put,LA];refine Tk1 (v:=?_) 2 hS0 ?_ ?_;rotate_left
  ·rintro w' _;go_simp;first|done|with_reducible rfl|rfl
  simp only[Act.put,LA];refine Tk1 (v:=?_) 3 hS0 ?_ ?_;rotate_left
  ·rintro w' _;go_simp;first|done|with_reducible rfl|rfl
  simp only[Act.put,LA];refine Tk1 (v:=?_) 4 hS0 ?_ ?_;rotate_left
  ·rintro w' _;go_simp;first|done|with_reducible rfl|rfl
  simp only[Act.put,LA];refine Tk0 5 hS0 ?_;simp only[Act.put,LA];refine Tk0 6 hS0 ?_;simp only[Act.put,LA];refine Tk1 (v:=?_) 7 hS0 ?_ ?_;rotate_left
  ·rintro w' _;go_simp;first|done|with_reducible rfl|rfl
  simp only[Act.put,LA];refine Rd1 8 fun K hK=>?_;go_simp;refine hK.out _ _ (by rw[World.cell?_setCell_other _ _ _ _ (by simp),World.cell?_setCell_other _ _ _ _ (by simp)];exact hS0) (fun hS9=>?_);clear hK K;refine Tk1 (v:=?_) 9 hS9 ?_ ?_;rotate_left
  ·rintro w' _;go_simp;first|done|with_reducible rfl|rfl
  simp only[Act.put,LA];refine wpAnyH_done (by kernel_rfl) ?_ _;refine NoPanic.normal ?_;go_wp2_with fail;have QV:=(heap_setCell_same _ w.heap.size 1 _ _ (.slice A5 qn c5) ((heap_setCell_same W0 w.heap.size 0 _ _ (.string s) Q8.out).trans rfl)).trans rfl;obtain⟨e0,e1⟩:=zcG QV;refine bodyPost_ret (v:=.tuple #[.agg #[.string s,.slice A5 qn c5],.bool false]) (by simp[results,Tryz.results13,go_sem,e0,e1]) rfl ?_;have BV:=(B7.out.setCell (p:=⟨w.heap.size,0,none⟩) (Nat.le_refl _) (.string s)).setCell (p:=⟨w.heap.size,1,none⟩) (Nat.le_refl _) (.slice A5 qn c5);refine⟨A5,c5,qn,q,false,rfl,H5.out,?_,A5'.out,BV,OK.out,fun _=>NO.out (by trivial),fun h=>by(cases h)⟩;exact(N7.out.patb Q8.out).patb ((heap_setCell_same W0 w.heap.size 0 _ _ (.string s) Q8.out).trans rfl)
 | true =>
  subst hok;refine wp_region_noPanic ?_;refine wp_region_held (S:=fun w'=>w'.cell? ⟨w2.heap.size,0,none⟩=some (.slice A5 qn c5)) (by kernel_rfl) ?_;change wpAnyH _ _ _ _ _ _ _ _ (w2.alloc (.cells #[.slice A5 qn c5] 28)).drew;rw[←hW0];clear hW0;refine Tk1 (v:=?_) 0 hS0 ?_ ?_;rotate_left
  ·rintro w' _;go_simp;first|done|with_reducible rfl|rfl
  simp only[Act.put,LA];refine Tk1 (v:=?_) 1 hS0 ?_ ?_;rotate_left
  ·rintro w' _;go_simp;first|done|with_reducible rfl|rfl
  simp only[Act.put,LA];refine Tk1 (v:=?_) 2 hS0 ?_ ?_;rotate_left
  ·rintro w' _;go_simp;first|done|with_reducible rfl|rfl
  simp only[Act.put,LA];refine Tk1 (v:=?_) 3 hS0 ?_ ?_;rotate_left
  ·rintro w' _;go_simp;first|done|with_reducible rfl|rfl
  simp only[Act.put,LA];refine Tk1 (v:=?_) 4 hS0 ?_ ?_;rotate_left
  ·rintro w' _;go_simp;first|done|with_reducible rfl|rfl
  simp only[Act.put,LA];refine Tk1 (v:=?_) 5 hS0 ?_ ?_;rotate_left
  ·rintro w' _;go_simp;first|done|with_reducible rfl|rfl
  simp only[Act.put,LA];refine Rd1 6 fun K hK=>?_;go_simp;refine(zeN s _ HS.out).mono ?_;rintro e w3 ⟨rfl,rfl⟩;rw[←HR.out];dsimp only;refine hK.out _ _ hS0 (fun _=>?_);clear hK K;refine Tk1 (v:=?_) 7 hS0 ?_ ?_;rotate_left
  ·rintro w' _;go_simp;first|done|with_reducible rfl|rfl
  simp only[Act.put,LA];refine Rd1 8 fun K hK=>?_;go_simp;refine hK.out _ _ (by rw[World.cell?_setCell_other _ _ _ _ (by simp),World.cell?_setCell_other _ _ _ _ (by simp)];exact hS0) (fun hS9=>?_);clear hK K;refine Tk1 (v:=?_) 9 hS9 ?_ ?_;rotate_left
  ·rintro w' _;go_simp;first|done|with_reducible rfl|rfl
  simp only[Act.put,LA];refine wpAnyH_done (by kernel_rfl) ?_ _;refine NoPanic.normal ?_;go_wp2_with fail;have QV:=(heap_setCell_same _ w.heap.size 1 _ _ (.slice A5 qn c5) ((heap_setCell_same W0 w.heap.size 0 _ _ (.string s) Q8.out).trans rfl)).trans rfl;obtain⟨e0,e1⟩:=zcG QV;refine bodyPost_ret (v:=.tuple #[.agg #[.string s,.slice A5 qn c5],.bool R]) (by simp[results,Tryz.results13,go_sem,e0,e1]) rfl ?_;have BV:=(B7.out.setCell (p:=⟨w.heap.size,0,none⟩) (Nat.le_refl _) (.string s)).setCell (p:=⟨w.heap.size,1,none⟩) (Nat.le_refl _) (.slice A5 qn c5);refine⟨A5,c5,qn,q,true,by rw[HR.out];rfl,H5.out,?_,A5'.out,BV,OK.out,fun h=>by(cases h),fun _=>QO.out (by trivial)⟩;exact(N7.out.patb Q8.out).patb ((heap_setCell_same W0 w.heap.size 0 _ _ (.string s) Q8.out).trans rfl)
end Go.Proofs.YtfjajpnfjjdnpaaGreatDoor
