import Derived.Test.YtfjajpnfjjdnpaaGreatDoorVRuW

set_option linter.unusedVariables false
set_option linter.unusedSimpArgs false
set_option maxRecDepth 100000
set_option maxHeartbeats 6400000
namespace Go.Proofs.YtfjajpnfjjdnpaaGreatDoor
open Go.RowKit Num Nds Txt
theorem Ns.patb {w:World}{A A0:Option Addr}{c n0 c0 g k:Nat}{l:List Nd}{u:Value}{s0:ByteArray}{t:TypeId}(h:Ns w A c l)(hb:w.heap[g]?=some (.cells #[.string s0,.slice A0 n0 c0] t)):Ns (w.setCell ⟨g,k,none⟩ u) A c l :=
 ⟨h.1,h.2.1,h.2.2.1,fun h0=>by
  obtain⟨b,off,e,hlt,hc⟩:=h.2.2.2 h0;have hne:b≠g:=fun e2=>by
   subst e2;have h1:=(hc 0 h0).1;rw[cell_of_row w b _ _ _ (0,0) hb] at h1;rcases off with _|_|off
   ·simp at h1
   ·simp at h1
   ·simp at h1
  exact⟨b,off,e,by simpa [World.setCell] using hlt,fun i hi=>(hc i hi).below (Below.heap_setCell w ⟨g,k,none⟩ u b hne)⟩⟩
def zuU (s:ByteArray)(l:List Cv)(most:Int)(w:World)(e:Ending)(w':World):Prop :=
 ∃A' c' qn q ok,e=.returned (.tuple #[.agg #[.string s,.slice A' qn c'],.bool (ok&&zcL s.data.toList)])∧q.length=qn∧Ns w' A' c' q∧(A'=none→c'=0)∧Below w.heap.size w w'∧ok=mayB l most∧(ok=false→q=[])∧(ok=true→zcr (zbo (l.map Cv.cl)) q)
theorem zri (A:Option Addr)(c n:Nat)(most:Int)(s:ByteArray)(l:List Cv)(w:World)(hs:s.size≤maxLen)(h:Cs w A c l)(hn:l.length=n)(hm:most≤600) :
  Calls Tryz.prog 13 #[.string s,.slice A n c,.int .i64 most] w (zuU s l most w):=by
 have hcap:=h.cap;rw[hn] at hcap;have hb:=(Below.refl w.heap.size w).alloc (Nat.le_refl _) (.cells #[.string ⟨#[]⟩,.slice none 0 0] 30);have hq:=heap_alloc_new w (.cells #[.string ⟨#[]⟩,.slice none 0 0] 30);have HC:=Hh (h.below hb);have HN:=Hh hn;have HB:=Hh hb;have HQ:=Hh hq;have HS:=Hh hs;obtain⟨R,hR⟩:∃R,R=zcL s.data.toList:=⟨_,rfl⟩;have HR:=Hh hR;have q0:True:=trivial;clear h hn hb hq hs hR;go_enter Tryz.func13,Tryz.ntmps13;go_upto_region 2 with(have _t:=q0;go_at_call 49;clear _t;go_loud (refine(zoR A c n most l _ HC.out HN.out hm).mono ?_;rintro e w2 ⟨A5,c5,qn,q,ok,rfl,l5,n5,a5,b5,hok,hno,hqo⟩;have hc5:=n5.cap;rw[l5] at hc5;have H5:=Hh l5;have N5:=Hh n5;have A5':=Hh a5;have L5:=Hh b5.size;have B5:=Hh (HB.out.trans (b5.mono HB.out.size));have HQ:=Hh ((b5.block _ (zag HQ.out)).trans HQ.out);have OK:=Hh hok;have NO:=Hh hno;have QO:=Hh hqo;clear l5 n5 a5 b5 hok hno hqo;have q1:=q0;clear q0))
 have hb2:=(Below.refl w2.heap.size w2).alloc (Nat.le_refl _) (.cells #[.slice A5 qn c5] 28);have N6:=Hh (N5.out.below hb2);have B6:=Hh (B5.out.trans (hb2.mono B5.out.size));have Q6:=Hh ((hb2.block _ (zag HQ.out)).trans HQ.out);clear hb2 HQ B5 N5;obtain⟨W0,hW0⟩:∃W0:World,W0=(w2.alloc (.cells #[.slice A5 qn c5] 28)).drew:=⟨_,rfl⟩;have hd:=Below.drew' (Below.refl (w2.alloc (.cells #[.slice A5 qn c5] 28)).heap.size (w2.alloc (.cells #[.slice A5 qn c5] 28)));rw[←hW0] at hd;have hS0:=zab ((hd.block _ (by simp)).trans (heap_alloc_new w2 (.cells #[.slice A5 qn c5] 28)));have N7:=Hh (N6.out.below hd);have B7:=Hh (B6.out.trans (hd.mono B6.out.size));have Q7:=(hd.block _ (zag Q6.out)).trans Q6.out;obtain⟨r0,r1⟩:=zcZ Q7;have r2:=frozen_of_row W0 w.heap.size 0 _ _ Q7;have r3:=frozen_of_row W0 w.heap.size 1 _ _ Q7;have hne:w.heap.size<w2.heap.size:=by have:=L5.out;rw[World.size_alloc] at this;omega
 have Q8:=Hh Q7;clear N6 B6 Q6 hd Q7;cases hok:ok with
 | false =>
  subst hok;refine wp_region_noPanic ?_;refine wp_region_held (S:=fun w'=>w'.cell? ⟨w2.heap.size,0,none⟩=some (.slice A5 qn c5)) (by kernel_rfl) ?_;change wpAnyH _ _ _ _ _ _ _ _ (w2.alloc (.cells #[.slice A5 qn c5] 28)).drew;rw[←hW0];clear hW0;refine Tk1 (v:=?_) 0 hS0 ?_ ?_;rotate_left
  ·rintro w' _;go_simp;first|done|with_reducible rfl|rfl
  simp only[Act.put,LA];refine Tk1 (v:=?_) 1 hS0 ?_ ?_;rotate_left
  ·rintro w' _;go_simp;first|done|with_reducible rfl|rfl
  simp only[Act.put,LA];refine Tk1 (v:=?_) 2 hS0 ?_ ?_;rotate_left
  ·rintro w' _;go_simp;first|done|with_reducible rfl|rfl
  simp only[Act.put,LA];refine Tk1 (v:=?_) 3 hS0 ?_ ?_;rotate_left
  ·rintro w' _;go_simp;first|done|with_reducible rfl|rfl
  simp only[Act.put,LA];refine Tk1 (v:=?_) 4 hS0 ?_ ?_;rotate_left
  ·rintro w' _;go_simp;first|done|with_reducible rfl|rfl
  simp only[Act.put,LA];refine Tk0 5 hS0 ?_;simp only[Act.put,LA];refine Tk0 6 hS0 ?_;simp only[Act.put,LA];refine Tk1 (v:=?_) 7 hS0 ?_ ?_;rotate_left
  ·rintro w' _;go_simp;first|done|with_reducible rfl|rfl
  simp only[Act.put,LA];refine Rd1 8 fun K hK=>?_;go_simp;refine hK.out _ _ (by rw[World.cell?_setCell_other _ _ _ _ (by simp),World.cell?_setCell_other _ _ _ _ (by simp)];exact hS0) (fun hS9=>?_);clear hK K;refine Tk1 (v:=?_) 9 hS9 ?_ ?_;rotate_left
  ·rintro w' _;go_simp;first|done|with_reducible rfl|rfl
  simp only[Act.put,LA];refine wpAnyH_done (by kernel_rfl) ?_ _;refine NoPanic.normal ?_;go_wp2_with fail;have QV:=(heap_setCell_same _ w.heap.size 1 _ _ (.slice A5 qn c5) ((heap_setCell_same W0 w.heap.size 0 _ _ (.string s) Q8.out).trans rfl)).trans rfl;obtain⟨e0,e1⟩:=zcZ QV;refine bodyPost_ret (v:=.tuple #[.agg #[.string s,.slice A5 qn c5],.bool false]) (by simp[results,Tryz.results13,go_sem,e0,e1]) rfl ?_;have BV:=(B7.out.setCell (p:=⟨w.heap.size,0,none⟩) (Nat.le_refl _) (.string s)).setCell (p:=⟨w.heap.size,1,none⟩) (Nat.le_refl _) (.slice A5 qn c5);refine⟨A5,c5,qn,q,false,rfl,H5.out,?_,A5'.out,BV,OK.out,fun _=>NO.out (by trivial),fun h=>by(cases h)⟩;exact(N7.out.patb Q8.out).patb ((heap_setCell_same W0 w.heap.size 0 _ _ (.string s) Q8.out).trans rfl)
 | true =>
  subst hok;refine wp_region_noPanic ?_;refine wp_region_held (S:=fun w'=>w'.cell? ⟨w2.heap.size,0,none⟩=some (.slice A5 qn c5)) (by kernel_rfl) ?_;change wpAnyH _ _ _ _ _ _ _ _ (w2.alloc (.cells #[.slice A5 qn c5] 28)).drew;rw[←hW0];clear hW0;refine Tk1 (v:=?_) 0 hS0 ?_ ?_;rotate_left
  ·rintro w' _;go_simp;first|done|with_reducible rfl|rfl
  simp only[Act.put,LA];refine Tk1 (v:=?_) 1 hS0 ?_ ?_;rotate_left
  ·rintro w' _;go_simp;first|done|with_reducible rfl|rfl
  simp only[Act.put,LA];refine Tk1 (v:=?_) 2 hS0 ?_ ?_;rotate_left
  ·rintro w' _;go_simp;first|done|with_reducible rfl|rfl
  simp only[Act.put,LA];refine Tk1 (v:=?_) 3 hS0 ?_ ?_;rotate_left
  ·rintro w' _;go_simp;first|done|with_reducible rfl|rfl
  simp only[Act.put,LA];refine Tk1 (v:=?_) 4 hS0 ?_ ?_;rotate_left
  ·rintro w' _;go_simp;first|done|with_reducible rfl|rfl
  simp only[Act.put,LA];refine Tk1 (v:=?_) 5 hS0 ?_ ?_;rotate_left
  ·rintro w' _;go_simp;first|done|with_reducible rfl|rfl
  simp only[Act.put,LA];refine Rd1 6 fun K hK=>?_;go_simp;refine(zmJ s _ HS.out).mono ?_;rintro e w3 ⟨rfl,rfl⟩;rw[←HR.out];dsimp only;refine hK.out _ _ hS0 (fun _=>?_);clear hK K;refine Tk1 (v:=?_) 7 hS0 ?_ ?_;rotate_left
  ·rintro w' _;go_simp;first|done|with_reducible rfl|rfl
  simp only[Act.put,LA];refine Rd1 8 fun K hK=>?_;go_simp;refine hK.out _ _ (by rw[World.cell?_setCell_other _ _ _ _ (by simp),World.cell?_setCell_other _ _ _ _ (by simp)];exact hS0) (fun hS9=>?_);clear hK K;refine Tk1 (v:=?_) 9 hS9 ?_ ?_;rotate_left
  ·rintro w' _;go_simp;first|done|with_reducible rfl|rfl
  simp only[Act.put,LA];refine wpAnyH_done (by kernel_rfl) ?_ _;refine NoPanic.normal ?_;go_wp2_with fail;have QV:=(heap_setCell_same _ w.heap.size 1 _ _ (.slice A5 qn c5) ((heap_setCell_same W0 w.heap.size 0 _ _ (.string s) Q8.out).trans rfl)).trans rfl;obtain⟨e0,e1⟩:=zcZ QV;refine bodyPost_ret (v:=.tuple #[.agg #[.string s,.slice A5 qn c5],.bool R]) (by simp[results,Tryz.results13,go_sem,e0,e1]) rfl ?_;have BV:=(B7.out.setCell (p:=⟨w.heap.size,0,none⟩) (Nat.le_refl _) (.string s)).setCell (p:=⟨w.heap.size,1,none⟩) (Nat.le_refl _) (.slice A5 qn c5);refine⟨A5,c5,qn,q,true,by rw[HR.out];rfl,H5.out,?_,A5'.out,BV,OK.out,fun h=>by(cases h),fun _=>QO.out (by trivial)⟩;exact(N7.out.patb Q8.out).patb ((heap_setCell_same W0 w.heap.size 0 _ _ (.string s) Q8.out).trans rfl)
end Go.Proofs.YtfjajpnfjjdnpaaGreatDoor

namespace Go.Proofs.YtfjajpnfjjdnpaaGreatDoor
open Go.RowKit Lib
abbrev WbA (b:Nat)(p:Value)(bs:List Value)(w:World):Prop:=Lib.BuilderAtF 85 5 b b p bs w
abbrev Wb (b:Nat)(bs:List Value)(w:World):Prop:=Lib.IsBuilderF 85 5 b b bs w
theorem zum:(85:TypeId)≠5:=by decide
theorem zrj:liesAt Tryz.prog Tryz.prog.depth 85 (2 / Tryz.prog.cellsOf 85) 0 85 1=true:=by kernel_rfl
theorem ziT (b:Nat)(w:World)(h0:w.cell? ⟨b,0,none⟩=some (.pointer none))(hs:w.shape? b=some (85,2))(hf:w.frozen? ⟨b,0,none⟩=false) :
  Calls Tryz.prog 135 #[.pointer (some ⟨b,0,none⟩)] w fun e w'=>e=.returned (.tuple #[])∧w'=w.setCell ⟨b,0,none⟩ (.pointer (some ⟨b,0,none⟩)):=by
 obtain⟨j,hj,hjs⟩:=Option.map_eq_some_iff.1 zlv;go_enter Tryz.func135,Tryz.ntmps135;go_wp2;rw[Lib.run_to_unsafe w ⟨b,0,none⟩ Tryz.underlying82 Tryz.underlying206 hj (by rw[hjs];decide) hs (Nat.zero_lt_succ 1)];simp only[Result.andThen];rw[Oper.upon_value];go_wp2;rw[run_callFunc_extern Tryz.func176 (by kernel_rfl) (by kernel_rfl) (by kernel_rfl) (e:=Extern.AbiNoEscape.same) (by kernel_rfl),Lib.run_noEscape];simp only[Result.andThen];rw[Oper.upon_value];go_wp2;rw[Lib.run_from_unsafe w ⟨b,0,none⟩ Tryz.underlying206 Tryz.underlying82 hj hs zrj];simp only[Result.andThen];rw[Oper.upon_value];go_wp2;go_end0;exact⟨rfl,rfl⟩
theorem zlC (b:Nat)(bs:List Value)(w:World)(h:Wb b bs w) :
  Calls Tryz.prog 135 #[.pointer (some ⟨b,0,none⟩)] w fun e w'=>e=.returned (.tuple #[])∧WbA b (.pointer (some ⟨b,0,none⟩)) bs w'∧Ke b w w':=by
 rcases h with h|h
 ·refine(ziT b w h.cell0 h.shape h.frozen0).mono ?_;rintro e w' ⟨rfl,rfl⟩;exact⟨rfl,h.used _,(Below.refl b w).setCell (p:=⟨b,0,none⟩) h.1 _,(Lib.OthersKept.refl _ _ w).setCell ⟨b,0,none⟩ rfl _⟩
 ·refine(zhZ b w h.cell0).mono ?_;rintro e w' ⟨rfl,rfl⟩;exact⟨rfl,h,Ke.refl _ _⟩
theorem WbA.cells {b:Nat}{p:Value}{bs:List Value}{w:World}(h:WbA b p bs w):∃v,w.heap[b]?=some (.cells #[p,v] 85 (0,0))∧w.cell? ⟨b,0,none⟩=some p∧w.cell? ⟨b,1,none⟩=some v∧w.frozen? ⟨b,1,none⟩=false∧w.ownsRowF b 5 1 v bs.length bs∧v.ownBlock≠some b:=by
 obtain⟨-,v,hb,ho,hne⟩:=h;exact⟨v,hb,by rw[Lib.cell_of_heap hb];rfl,by rw[Lib.cell_of_heap hb];rfl,Lib.frozen_of_heap hb 1,ho,hne⟩
theorem WbA.grew {b:Nat}{p v v':Value}{bs cs:List Value}{w w1 w2:World}(hb:b≤w.heap.size)(k:Ke b w w1)(hbk:w1.heap[b]?=some (.cells #[p,v] 85 (0,0)))(ho:w1.ownsRowF b 5 1 v bs.length bs)(hne:v.ownBlock≠some b)
  (o:w2.ownsRowF b 5 1 v' (bs++cs).length (bs++cs)) (g:w1.grownBy w2 v.ownBlock) :
  w2.heap[b]?=some (.cells #[p,v] 85 (0,0))∧WbA b p (bs++cs) (w2.setCell ⟨b,1,none⟩ v')∧Ke b w (w2.setCell ⟨b,1,none⟩ v'):=by
 have hlt:b<w1.heap.size:=(Array.getElem?_eq_some_iff.1 hbk).1;have hb2:w2.heap[b]?=some (.cells #[p,v] 85 (0,0)):=by rw[g.block b hlt (fun e=>hne e.symm)];exact hbk
 exact⟨hb2,Lib.BuilderAtF.put (Nat.le_refl _) hb2 o zum,(k.1.grown g (Nat.le_trans hb k.1.size) (fun q hq=>(ho.lt q hq).1)).setCell (p:=⟨b,1,none⟩) (Nat.le_refl _) _,(k.2.grown g (Lib.ownsRowF_kind ho)).setCell ⟨b,1,none⟩ rfl _⟩
theorem zpn (b:Nat)(bs:List Value)(s:ByteArray)(w:World)(h:Wb b bs w)(hl:bs.length+s.size≤140737488355328)(hb:b≤w.heap.size) :
  Calls Tryz.prog 87 #[.pointer (some ⟨b,0,none⟩),.string s] w fun e w'=>e=.returned (.tuple #[.int .i64 s.size,.nilIface])∧WbA b (.pointer (some ⟨b,0,none⟩)) (bs++strCells s) w'∧Ke b w w':=by
 obtain⟨i0,hi,hz0,hz1,hz2⟩:=info_parts zlu;go_enter Tryz.func87,Tryz.ntmps87;go_wp2_with (first
  | (go_at_call 135;go_loud (refine(zlC b _ _ h).mono ?_;rintro e w1 ⟨rfl,h1,k1⟩;obtain⟨v,hbk,c0,c1,-,ho,hne⟩:=h1.cells))
  | (at_builtin;go_loud (refine wpList_append_own_stringF _ rfl _ _ 83 9 rfl b 5 i0 Tryz.underlying83 Tryz.underlying9 hi hz0 hz1 hz2 _ _ _ rfl ho s rfl (by unfold maxLen;omega) (by omega) (by have:=k1.1.size;omega) ?_;intro v' w2 ho2 hg2 _;have hc:=WbA.grew hb k1 hbk ho hne (v':=v') (cs:=strCells s) (by rw[List.length_append,strCells_length];exact ho2) hg2;obtain⟨hb2,h3,k3⟩:=hc;have d0:w2.cell? ⟨b,0,none⟩=some (.pointer (some ⟨b,0,none⟩)):=(Lib.cell_of_heap hb2 0).trans rfl;have d1:w2.cell? ⟨b,1,none⟩=some v:=(Lib.cell_of_heap hb2 1).trans rfl;have f1:w2.frozen? ⟨b,1,none⟩=false:=Lib.frozen_of_heap hb2 1;obtain⟨A2,c2,rfl⟩:=zgX ho2)))
 go_ret2;exact⟨rfl,h3,k3⟩
theorem zlD (b:Nat)(l:List UInt8)(s:ByteArray)(w:World)(h:Wb b (byteCells l) w)(hl:l.length+s.size≤140737488355328)(hb:b≤w.heap.size) :
  Calls Tryz.prog 87 #[.pointer (some ⟨b,0,none⟩),.string s] w fun e w'=>e=.returned (.tuple #[.int .i64 s.size,.nilIface])∧Wb b (byteCells (l++s.data.toList)) w'∧Ke b w w':=by
 refine(zpn b _ s w h (by rw[byteCells_length];exact hl) hb).mono ?_;rintro e w' ⟨rfl,h1,h2⟩;rw[strCells_eq,←byteCells_append] at h1;exact⟨rfl,.inr h1,h2⟩
theorem zrk (b:Nat)(bs:List Value)(n:Nat)(hn:bs.length=n)(r:Int)(w:World)(h:Wb b bs w)(hl:n+1≤140737488355328)(hb:b≤w.heap.size) :
  Calls Tryz.prog 89 #[.pointer (some ⟨b,0,none⟩),.int .u8 r] w fun e w'=>e=.returned .nilIface∧WbA b (.pointer (some ⟨b,0,none⟩)) (bs++[.int .u8 r]) w'∧Ke b w w':=by
 obtain⟨i0,hi,hz0,hz1,hz2⟩:=info_parts zlu;go_enter Tryz.func89,Tryz.ntmps89;go_wp2_with (first
  | (go_at_call 135;go_loud (refine(zlC b _ _ h).mono ?_;rintro e w1 ⟨rfl,h1,k1⟩;obtain⟨v,hbk,c0,c1,-,ho,hne⟩:=h1.cells;rw[hn] at ho;have hlt:b<w1.heap.size:=(Array.getElem?_eq_some_iff.1 hbk).1;have e1:(w1.alloc (.cells #[.int .u8 r] 5)).cell? ⟨b,1,none⟩=some v:=(Lib.cell_of_heap ((Lib.alloc_old w1 _ b hlt).trans hbk) 1).trans rfl))
  | (at_builtin;go_loud (refine wpList_append_ownF _ rfl _ _ 83 rfl b 5 i0 (.int .u8 0) 1 1 Tryz.underlying83 hi hz0 hz1 hz2 rfl (by decide) _ _ _ rfl (ho.alloc _) ⟨w1.heap.size,0,none⟩ 1 1 [.int .u8 r] rfl rfl (fun j u hj=>by(match j,hj with|0,hj=>(simp at hj;subst hj;simp[Addr.add])|(j+1),hj=>simp at hj)) (fun u hu=>by(simp at hu;subst hu;rfl)) (by unfold maxLen;omega) (by omega) (by have:=k1.1.size;simp;omega) ?_;intro v' w2 ho2 hg2 _;have hc:=WbA.grew (w1:=w1.alloc (.cells #[.int .u8 r] 5)) hb (⟨k1.1.alloc (by have:=k1.1.size;omega) _,k1.2.alloc _⟩:Ke b w (w1.alloc (.cells #[.int .u8 r] 5))) ((Lib.alloc_old w1 _ b hlt).trans hbk) (by rw[hn];exact ho.alloc _) hne (v':=v') (cs:=[.int .u8 r]) (by rw[List.length_append,hn];exact ho2) hg2;obtain⟨hb2,h3,k3⟩:=hc;have d0:w2.cell? ⟨b,0,none⟩=some (.pointer (some ⟨b,0,none⟩)):=(Lib.cell_of_heap hb2 0).trans rfl;have d1:w2.cell? ⟨b,1,none⟩=some v:=(Lib.cell_of_heap hb2 1).trans rfl;have f1:w2.frozen? ⟨b,1,none⟩=false:=Lib.frozen_of_heap hb2 1;obtain⟨A2,c2,rfl⟩:=zgX ho2)))
 go_ret;exact⟨rfl,h3,k3⟩
theorem zpo (b:Nat)(l:List UInt8)(r:UInt8)(w:World)(h:Wb b (byteCells l) w)(hl:l.length+1≤140737488355328)(hb:b≤w.heap.size) :
  Calls Tryz.prog 89 #[.pointer (some ⟨b,0,none⟩),.int .u8 (r.toNat:Int)] w fun e w'=>e=.returned .nilIface∧Wb b (byteCells (l++[r])) w'∧Ke b w w':=by
 refine(zrk b _ _ (byteCells_length l) (r.toNat:Int) w h hl hb).mono ?_;rintro e w' ⟨he,h2,h3⟩;rw[show([.int .u8 (r.toNat:Int)]:List Value)=byteCells [r] from rfl,←byteCells_append] at h2;exact⟨he,.inr h2,h3⟩
theorem zth (b:Nat)(l:List UInt8)(w:World)(h:Wb b (byteCells l) w)(h0:l≠[]) :
  Calls Tryz.prog 54 #[.pointer (some ⟨b,0,none⟩)] w fun e w'=>e=.returned (.string ⟨l.toArray⟩)∧Below b w w':=by
 obtain⟨p,hA⟩:∃p,WbA b p (byteCells l) w:=by
  rcases h with h|h
  ·exact⟨_,h⟩
  ·exact⟨_,h⟩
 obtain⟨v,hbk,-,c1,-,ho,hne⟩:=hA.cells;have hl0:l.length≠0:=by simpa using h0
 rw[byteCells_length] at ho;obtain⟨g,cap,cur,fz,rfl,hbg,hg,hcm,hnc,hcs⟩:∃g cap cur fz,v=.slice (some ⟨g,0,none⟩) l.length cap∧b≤g∧w.heap[g]?=some (.cells cur 5 fz)∧cap≤maxLen∧l.length≤cap∧l.length≤cur.size:=by
  rcases ho.2 with⟨-,hz⟩|⟨g,cap,cur,fz,hv,r1,r2,-,r3,r4,r5,-⟩
  ·exact absurd hz hl0
  ·exact⟨g,cap,cur,fz,hv,r1,r2,r4,r3,by omega⟩
 have c2:w.drew.cell? ⟨b,1,none⟩=some (.slice (some ⟨g,0,none⟩) l.length cap):=c1;have hSD:(Builtin.unsafeSliceData_ #[83] 143 #[.slice (some ⟨g,0,none⟩) l.length cap]).run Tryz.prog w.drew=.ok (.pointer (some ⟨g,0,none⟩)) w.drew:=run_unsafeSliceData_row _ _ _ _ _ _ (by omega);have hUS:(Builtin.unsafeString_ #[143,3] 9 #[.pointer (some ⟨g,0,none⟩),.int .i64 l.length]).run Tryz.prog w.drew=.ok (.string ⟨l.toArray⟩) (w.drew.freeze ⟨g,0,none⟩ l.length) :=
  run_unsafeString_row w.drew 143 3 9 5 Tryz.underlying143 (by kernel_rfl) g cur.size (by have hg':w.drew.heap[g]?=some (.cells cur 5 fz):=hg;simp[World.shape?,hg']) l h0 hcs (by unfold maxLen at hcm;omega) (fun j x hx=>ho.cells (g:=g) rfl j (.int .u8 x.toNat) (by simp[byteCells,hx]))
 have mixed:Tryz.prog.follows .mixedOrders=true:=by kernel_rfl
 go_enter Tryz.func54,Tryz.ntmps54;go_wp2;go_region_o
 all_goals (go_wp2;go_ret;exact⟨rfl,below_freeze (Below.drew (Below.refl b w)) (p:=⟨g,0,none⟩) hbg _⟩)
theorem Wb.fresh (w:World):Wb w.heap.size (Lib.byteCells []) (w.alloc (.cells #[.pointer none,.slice none 0 0] 85)):=Lib.IsBuilderF.of (Lib.fresh_isBuilder 85 5 w)
theorem zpp (u:Gr)(w:World)(h:Ts w u.a u.c u.L) :
  Calls Tryz.prog 74 #[u.val] w fun e w'=>e=.returned (.tuple #[.int .i64 (zbV u.L:Int),.int .i64 (u.L.length:Int)])∧Below w.heap.size w w':=by
 have hcap:=h.cap;have hal:=(Below.refl w.heap.size w).alloc (Nat.le_refl _) u.obj;obtain⟨W0,hW0⟩:∃W:World,W=w.alloc u.obj:=⟨_,rfl⟩;obtain⟨g0,hg0⟩:∃g,g=w.heap.size:=⟨_,rfl⟩;have hk:W0.heap[g0]?=some u.obj:=by rw[hW0,hg0];exact heap_alloc_new w _
 have HW:=Hh (show Below w.heap.size w W0 by rw[hW0];exact hal);have ht:Ts W0 u.a u.c u.L:=by rw[hW0];exact h.below hal
 obtain⟨e0,e1,e2,e3,e4⟩:=Gr.cells hk;rcases Nat.eq_zero_or_pos u.L.length with hl0|hl0
 ·have hw:zbV u.L=0:=by rw[List.length_eq_zero_iff.1 hl0];rfl
  have HH:=Hh hw;have HL0:=Hh hl0;have t1:((u.L.length:Int)==0)=true:=by rw[hl0];rfl
  rw[hw,hl0];clear h hal hk ht hw hl0;go_enter Tryz.func74,Tryz.ntmps74;go_upto_region 1 with fail
  rw[←hW0,←hg0];clear hW0 hg0;go_wp2_with fail;go_ret2;exact⟨rfl,HW.out⟩
 ·obtain⟨b2,o2,hA,-,hcc⟩:=ht.at_ hl0
  rw[hA] at e4;have s0:=hcc 0 hl0;rw[Nat.add_zero] at s0;unfold strV at s0;obtain⟨s,hs⟩:∃s:ByteArray,s=⟨(tat u.L 0).toArray⟩:=⟨_,rfl⟩;rw[←hs] at s0;have hw:s.size=zbV u.L:=by rw[hs,zaT];rfl
  have t1:((u.L.length:Int)==0)=false:=beq_eq_false_iff_ne.2 (by omega);have t2:(0:Int)<(u.L.length:Int):=by omega
  have t3:(0<u.L.length)=True:=eq_true hl0;rw[←hw];clear h hal hk ht hA hcc hl0 hs hw;go_enter Tryz.func74,Tryz.ntmps74;go_upto_region 1 with fail
  rw[←hW0,←hg0];clear hW0 hg0;go_wp2_with fail;go_quiet (fail);go_wp2_with fail;go_ret2;exact⟨rfl,zaa HW.out _⟩
theorem zmD (A:Option Addr)(c n:Nat)(L:List (List UInt8))(w:World)(h:Ts w A c L)(hn:L.length=n)(hn9:n≤1000000)(h4:∀t∈L,t.length≤4) :
  Calls Tryz.prog 76 #[.slice A n c] w fun e w'=>e=.returned (.string ⟨(zmC L).toArray⟩)∧Below w.heap.size w w':=by
 have hcap:=h.cap;rw[hn] at hcap;have HT:=Hh h;have HN:=Hh hn;have H4:=Hh h4;obtain⟨T,hT⟩:∃T,T=zmC L:=⟨_,rfl⟩;rw[←hT];have HTW:=Hh hT;have S0:=Hh (Wb.fresh w);obtain⟨b,hb⟩:∃b,b=w.heap.size:=⟨_,rfl⟩;rw[←hb] at S0;have HBE:=Hh hb;have B0:=Hh (show Below b w (w.alloc (.cells #[.pointer none,.slice none 0 0] 85)) by rw[hb];exact(Below.refl _ _).alloc (Nat.le_refl _) _);clear h hn h4 hT;go_enter Tryz.func76,Tryz.ntmps76;go_upto_region 2 with fail
 rw[←hb];clear hb;go_wp2_with fail;go_loopw [9,4,6] (fun z1 z2 z3 wr=>∃(k:Nat) (y:Value),z1=.int .i64 k∧z2=.int .i64 ((zck L k).2:Int)∧y=z3∧k≤n∧Wb b (byteCells (zck L k).1) wr∧Below b w wr) (fun z1 _ _ _=>n-(intOf z1).toNat)
 case atStart=>exact⟨0,_,rfl,rfl,rfl,Nat.zero_le _,S0.out,B0.out⟩
 case round =>
  obtain⟨k,y,rfl,rfl,rfl,hk,hs,hbl⟩:=hrel;have HS:=Hh hs;have HB:=Hh hbl;have hlt_:b≤wr.heap.size:=Nat.le_trans (by rw[HBE.out];exact Nat.le_refl _) hbl.size;have hwk:=zgp (m:=4) H4.out k (by rw[HN.out];exact hk);obtain⟨us,hus⟩:∃x,x=(zck L k).2:=⟨_,rfl⟩;have HUS:=Hh hus;rw[←hus] at hwk;rw[←hus];have hk5:k*(4+1)≤5000000:=by omega
  have HWL:=Hh hwk.1;have hus9:us≤5000000:=by omega
  clear hs hbl hus hwk;by_cases hlt:k<n
  ·have kw:IntKind.i64.wrap ((k:Int)+1)=(k:Int)+1:=IntWalk.i64_in _ (by omega);have hkl:k<L.length:=by rw[HN.out];exact hlt
   obtain⟨b2,o2,hA2,-,hcc⟩:=(HT.out.below (show Below w.heap.size w wr by rw[←HBE.out];exact HB.out)).at_ (by omega)
   subst hA2;have s0:=hcc k hkl;unfold strV at s0;obtain⟨t,ht⟩:∃t:ByteArray,t=⟨(tat L k).toArray⟩:=⟨_,rfl⟩;rw[←ht] at s0;have HTD:=Hh (show t.data.toList=tat L k by rw[ht]);have hz:t.size=(tat L k).length:=by rw[ht,zaT]
   have HZ:=Hh hz;have htz:t.size≤4:=by
    rw[hz];refine H4.out _ ?_;unfold tat;rw[List.getElem?_eq_getElem hkl];exact List.getElem_mem _
   have j0:(0:Int)≤(k:Int):=by omega
   have j1:(k:Int)<(n:Int):=by omega
   have j3:decide ((k:Int)<(n:Int))=true:=decide_eq_true j1;have HLT:=Hh hlt;have w1:IntKind.i64.wrap ((us:Int)+(t.size:Int))=(us:Int)+(t.size:Int):=IntWalk.i64_in _ (by omega);have w2:IntKind.i64.wrap (0+(t.size:Int))=(t.size:Int):=by rw[Int.zero_add];exact IntWalk.i64_in _ (by omega)
   have w3:IntKind.i64.wrap (t.size:Int)=(t.size:Int):=IntWalk.i64_in _ (by omega);clear hcc ht hlt hkl hz;by_cases hc:70<us+t.size
   ·have t1:decide ((us:Int)+(t.size:Int)>70)=true:=decide_eq_true (by omega);have t2:decide (70<us+t.size)=true:=decide_eq_true hc;have HNW:=Hh (ziQ (l:=L) (k:=k) (by rw[←HUS.out,←HZ.out];exact hc));clear hc;go_wp2_with (first
     | (go_at_call 89;go_loud (refine(zpo b _ 10 _ HS.out (by have:=HWL.out;omega) hlt_).mono ?_;rintro e w5 ⟨rfl,h5,k5⟩;have HS5:=Hh h5;have K5:=Hh k5;have hs5:=k5.1.size;clear h5 k5))
     | (go_at_call 87;go_loud (refine(zlD b _ t _ HS5.out (by rw[List.length_append];have:=HWL.out;simp only[List.length_cons,List.length_nil];omega) (by omega)).mono ?_;rintro e w6 ⟨rfl,h6,k6⟩;have HS6:=Hh h6;have K6:=Hh (K5.out.trans k6);clear h6 k6)))
    go_roundw
    case rel=>exact⟨k+1,_,by go_num,by rw[HNW.out,HZ.out],rfl,HLT.out,by rw[HNW.out,←HTD.out];exact HS6.out,HB.out.trans K6.out.1⟩
    case measure=>have:=HLT.out;simp[intOf];omega
   ·have t1:decide ((us:Int)+(t.size:Int)>70)=false:=decide_eq_false (by omega);have t2:decide (70<us+t.size)=false:=decide_eq_false hc;have HNW:=Hh (zly (l:=L) (k:=k) (by rw[←HUS.out,←HZ.out];exact hc));clear hc;go_wp2_with (go_at_call 87;go_loud (refine(zlD b _ t _ HS.out (by have:=HWL.out;omega) hlt_).mono ?_;rintro e w6 ⟨rfl,h6,k6⟩;have HS6:=Hh h6;have K6:=Hh k6;clear h6 k6));go_roundw
    case rel=>exact⟨k+1,_,by go_num,by rw[HNW.out,←HZ.out,←HUS.out];rfl,rfl,HLT.out,by rw[HNW.out,←HTD.out];exact HS6.out,HB.out.trans K6.out.1⟩
    case measure=>have:=HLT.out;simp[intOf];omega
  ·have e:k=n:=by omega
   have t9:decide ((k:Int)<(n:Int))=false:=decide_eq_false (by omega);have t10:decide (k<n)=false:=decide_eq_false hlt;have t11:(k<n)=False:=eq_false hlt;have HE:=Hh (show(zck L k).1++[10]=T by rw[HTW.out,e,←HN.out];rfl);clear hlt e;go_wp2_with (first
    | (go_at_call 89;go_loud (refine(zpo b _ 10 _ HS.out (by have:=HWL.out;omega) hlt_).mono ?_;rintro e w5 ⟨rfl,h5,k5⟩;have HS5:=Hh h5;have K5:=Hh k5;clear h5 k5))
    | (go_at_call 54;go_loud (refine(zth b _ _ HS5.out (by simp)).mono ?_;rintro e w6 ⟨rfl,b6⟩;rw[HE.out];have B6:=Hh (HB.out.trans (K5.out.1.trans b6));clear b6)))
   go_ret;exact⟨rfl,by rw[←HBE.out];exact B6.out⟩
end Go.Proofs.YtfjajpnfjjdnpaaGreatDoor

namespace Go.Proofs.YtfjajpnfjjdnpaaGreatDoor
open Go.RowKit Num Nds Txt
def FcI (s:ByteArray)(q:List Nd)(n:Nat)(box nodes er:Int)(T:List UInt8):Prop :=
 ∃(X Y:Int) (L:List (List UInt8)),GfI 4 s q n box nodes er X Y L∧((er≠0∧T=[])∨(er=0∧T=zjX s.data.toList X Y L))
theorem FcI.one {s:ByteArray}{q:List Nd}{n:Nat}{box nodes er er':Int}{T T':List UInt8}(h:FcI s q n box nodes er T)(k:FcI s q n box nodes er' T'):er=er'∧T=T':=by
 obtain⟨X,Y,L,g,h1⟩:=h;obtain⟨X',Y',L',g',k1⟩:=k;obtain⟨rfl,rfl,rfl,rfl⟩:=g.one g';refine⟨rfl,?_⟩;rcases h1 with⟨h0,rfl⟩|⟨h0,rfl⟩
 ·rcases k1 with⟨-,rfl⟩|⟨k0,-⟩
  ·rfl
  ·exact absurd k0 h0
 ·rcases k1 with⟨k0,-⟩|⟨-,rfl⟩
  ·exact absurd h0 k0
  ·rfl
def zuV (s:ByteArray)(q:List Nd)(n:Nat)(box nodes:Int)(w:World)(e:Ending)(w':World):Prop :=
 ∃er T,e=.returned (.tuple #[.string ⟨List.toArray T⟩,.int .i64 er])∧FcI s q n box nodes er T∧Below w.heap.size w w'
structure Oc (w:World)(A:Option Addr)(n c:Nat)(q:List Nd)(s:ByteArray)(box nodes:Int)(g6:Nat)(u:Gr)(X Y:Int)(W:World):Prop where
 o:Og w A n c q s box nodes W
 gk:W.heap[g6]?=some u.obj
 r:u.R W X Y
theorem Oc.next {w W W':World}{A:Option Addr}{n c:Nat}{q:List Nd}{s:ByteArray}{box nodes:Int}{g6:Nat}{u:Gr}{X Y:Int}(h:Oc w A n c q s box nodes g6 u X Y W)(k:Below W.heap.size W W'):Oc w A n c q s box nodes g6 u X Y W':=⟨h.o.next k,(k.block _ (zag h.gk)).trans h.gk,h.r.next k⟩
theorem Oc.s {w W:World}{A:Option Addr}{n c:Nat}{q:List Nd}{s:ByteArray}{box nodes:Int}{g6:Nat}{u:Gr}{X Y:Int}(h:Oc w A n c q s box nodes g6 u X Y W) :
  W.cell? ⟨g6,0,none⟩=some (.bool u.x.s)∧W.cell? ⟨g6,1,none⟩=some (.slice u.x.a u.x.xs.length u.x.c)∧W.cell? ⟨g6,2,none⟩=some (.bool u.y.s)∧W.cell? ⟨g6,3,none⟩=some (.slice u.y.a u.y.xs.length u.y.c)∧W.cell? ⟨w.heap.size,0,none⟩=some (.string s):=by
 obtain⟨c0,c1,c2,c3,-⟩:=Gr.cells h.gk;exact⟨c0,c1,c2,c3,h.o.cells.1⟩
theorem zti {L:List (List UInt8)}(h4:∀t∈L,t.length≤4)(hl:L.length≤100000):(zmC L).length≤600000:=by
 have h1:=(zgp h4 L.length (Nat.le_refl _)).1;unfold zmC;rw[List.length_append];show _+1≤_;omega
theorem zgZ {L:List (List UInt8)}(hr:∀r∈L,r.length≤99)(hl:L.length≤99):(zat L).length≤10000:=by
 have h1:=zek (b:=twoR L) hr L.length (Nat.le_refl _);have h2:L.length*(99+1)≤99*100:=Nat.mul_le_mul hl (by omega);unfold zat;rw[List.length_append];show _+1≤_;omega
theorem ziU (z:Int)(s:Bool)(xs:List Nat)(hd:Dig xs)(hl:xs.length≤60):(Digs.text s (val xs)).length≤700:=by
 have h1:=zbr hd;have h2:val xs<10^(10*xs.length+1):=Nat.lt_of_lt_of_le (Nat.lt_of_lt_of_le h1 (zgn xs.length)) (Nat.pow_le_pow_right (by decide) (by omega));have h3:=Digs.digs_length_le h2 (by omega);unfold Digs.text;split
 ·rw[List.length_cons];omega
 ·omega
theorem zha (A:Option Addr)(c n:Nat)(s:ByteArray)(q:List Nd)(box nodes:Int)(w:World)(hs:s.size≤1000)(h:Ns w A c q)(hn:q.length=n)(hn9:n≤900000)(hm : -9223372036854775808≤box∧box≤9223372036854775807)
  (hsz:∀X Y L,mayP s q=true→GoI q n box 0 X Y L→(∀r∈L,r.length≤99)∧L.length≤99) :
  Calls Tryz.prog 30 #[.agg #[.string s,.slice A n c],.agg #[.int .i64 box,.int .i64 nodes]] w (zuV s q n box nodes w):=by
 have hcap:=h.cap;rw[hn] at hcap;have OG:=Hh (Og.start (s:=s) (box:=box) (nodes:=nodes) (n:=n) h);have HN:=Hh hn;have HS:=Hh hs;obtain⟨c0,c1,c2,c3⟩:=OG.out.cells;clear h hn;go_enter Tryz.func30,Tryz.ntmps30;go_upto_if 16 with(go_at_call 72;go_loud (refine(zmx A c n s q 4 box nodes _ (by unfold maxLen;omega) OG.out.ns HN.out hn9 hm).mono ?_;rintro e w2 ⟨er,rfl,ck,b_⟩;have OG:=Hh (OG.out.next b_);have CK:=Hh ck;clear b_ ck c0 c1 c2 c3;obtain⟨c0,c1,c2,c3⟩:=OG.out.cells))
 by_cases he:er=0
 ·subst he;have HG:=Hh (zrc (zjU CK.out).1);go_upto_region 8 with(first
   | (go_at_call 73;go_loud (refine(zsZ A c n q box _ OG.out.ns HN.out hn9 HG.out hm).mono ?_;rintro e w3 ⟨u,X,Y,er,rfl,ru,lu,-,b_,gi⟩;obtain rfl:=zuf (by omega) CK.out gi;have hal:=(Below.refl w3.heap.size w3).alloc (Nat.le_refl _) u.obj;have OC:=Hh (show Oc w A n c q s box nodes w3.heap.size u X Y (w3.alloc u.obj) from⟨(OG.out.next b_).next hal,heap_alloc_new w3 u.obj,ru.next hal⟩);have GI:=Hh gi;have HZZ:=Hh (hsz X Y u.L (zjU CK.out).1 gi);clear b_ ru lu gi hal c0 c1 c2 c3;obtain⟨c0,c1,c2,c3⟩:=OC.out.o.cells;obtain⟨g0,g1,g2,g3,g4⟩:=Gr.cells OC.out.gk))
   | (go_at_call 74;go_loud (refine(zpp u _ OC.out.r.t).mono ?_;rintro e w4 ⟨rfl,b_⟩;have OC:=Hh (OC.out.next b_);clear b_ c0 c1 c2 c3 g0 g1 g2 g3 g4;obtain⟨c0,c1,c2,c3⟩:=OC.out.o.cells;obtain⟨g0,g1,g2,g3,g4⟩:=Gr.cells OC.out.gk)))
  obtain⟨g6,hg6⟩:∃g,g=w3.heap.size:=⟨_,rfl⟩;rw[←hg6] at OC g0 g1 g2 g3 g4 ⊢;have hhi:=GoI.hi HG.out HN.out GI.out;have lx:=zaR OC.out.r.x hhi.1.1 hhi.1.2;have ly:=zaR OC.out.r.y hhi.2.1 hhi.2.2;obtain⟨tx,htx⟩:∃t:ByteArray,t=⟨(zmB X).toArray⟩:=⟨_,rfl⟩;obtain⟨ty,hty⟩:∃t:ByteArray,t=⟨(zmB Y).toArray⟩:=⟨_,rfl⟩;have zx:tx.size≤700:=by rw[htx,zaT,←zhY OC.out.r.x];exact ziU 0 _ _ OC.out.r.x.us.1 (by omega)
  have zy:ty.size≤700:=by rw[hty,zaT,←zhY OC.out.r.y];exact ziU 0 _ _ OC.out.r.y.us.1 (by omega)
  have HWD:=Hh (show zbV u.L≤99 by
   unfold zbV tat;cases hq:u.L with
   | nil=>exact Nat.zero_le _
   | cons r l=>exact HZZ.out.1 r (by rw[hq];exact List.mem_cons_self))
  obtain⟨wd,hwd⟩:∃k,k=zbV u.L:=⟨_,rfl⟩;obtain⟨hi,hhg⟩:∃k,k=u.L.length:=⟨_,rfl⟩;rw[←hwd] at HWD ⊢;rw[←hhg];have HHI:=Hh (show hi≤99 by rw[hhg];exact HZZ.out.2);obtain⟨tw,htw⟩:∃t:ByteArray,t=⟨(Digs.digs wd).toArray⟩:=⟨_,rfl⟩;obtain⟨th,hth⟩:∃t:ByteArray,t=⟨(Digs.digs hi).toArray⟩:=⟨_,rfl⟩;have zw:tw.size≤2:=by rw[htw,zaT];exact zel (by have:=HWD.out;omega)
  have zh:th.size≤2:=by rw[hth,zaT];exact zel (by have:=HHI.out;omega)
  have HTX:=Hh htx;have HTY:=Hh hty;have HTW:=Hh htw;have HTH:=Hh hth;have HWE:=Hh hwd;have HHE:=Hh hhg;have m0:(9223372036854775807<11+tx.size)=False:=eq_false (by have:=HS.out;omega);have m1:(9223372036854775807<11+tx.size+1)=False:=eq_false (by have:=HS.out;omega);have m2:(9223372036854775807<11+tx.size+1+ty.size)=False:=eq_false (by have:=HS.out;omega);have m3:(9223372036854775807<11+tx.size+1+ty.size+1)=False:=eq_false (by have:=HS.out;omega);have m4:(9223372036854775807<11+tx.size+1+ty.size+1+4)=False:=eq_false (by have:=HS.out;omega);have m5:(9223372036854775807<11+tx.size+1+ty.size+1+4+tw.size)=False:=eq_false (by have:=HS.out;omega);have m6:(9223372036854775807<11+tx.size+1+ty.size+1+4+tw.size+6)=False:=eq_false (by have:=HS.out;omega);have m7:(9223372036854775807<11+tx.size+1+ty.size+1+4+tw.size+6+th.size)=False:=eq_false (by have:=HS.out;omega);have m8:(9223372036854775807<11+tx.size+1+ty.size+1+4+tw.size+6+th.size+9)=False:=eq_false (by have:=HS.out;omega);have m9:(9223372036854775807<11+tx.size+1+ty.size+1+4+tw.size+6+th.size+9+s.size)=False:=eq_false (by have:=HS.out;omega);have m10:(9223372036854775807<11+tx.size+1+ty.size+1+4+tw.size+6+th.size+9+s.size+1)=False:=eq_false (by have:=HS.out;omega);clear hhi hg6 htx hty hwd hhg htw hth hsz c0 c1 c2 c3 g0 g1 g2 g3 g4;obtain⟨v0,hv0⟩:∃W1:World,W1=w4.drew:=⟨_,rfl⟩;have Q0:=Hh (show Oc w A n c q s box nodes g6 u X Y v0 by rw[hv0];exact OC.out.next (Below.drew' (Below.refl _ _)));refine wp_region_noPanic ?_;refine wp_region_held (S:=fun w'=>w'.cell? ⟨g6,0,none⟩=some (.bool u.x.s)∧w'.cell? ⟨g6,1,none⟩=some (.slice u.x.a u.x.xs.length u.x.c)∧w'.cell? ⟨g6,2,none⟩=some (.bool u.y.s)∧w'.cell? ⟨g6,3,none⟩=some (.slice u.y.a u.y.xs.length u.y.c)∧w'.cell? ⟨w.heap.size,0,none⟩=some (.string s)) (by kernel_rfl) ?_;change wpAnyH _ _ _ _ _ _ _ _ w4.drew;rw[←hv0];clear hv0;have hS0:=Q0.out.s;refine Tk1 (v:=?_) 0 hS0 ?_ ?_;rotate_left
  ·rintro w' ⟨_,_,_,_,_⟩;go_simp;first|done|with_reducible rfl|rfl
  simp only[Act.put,LA];refine Tk1 (v:=?_) 1 hS0 ?_ ?_;rotate_left
  ·rintro w' ⟨_,_,_,_,_⟩;go_simp;first|done|with_reducible rfl|rfl
  simp only[Act.put,LA];refine Tk1 (v:=?_) 5 hS0 ?_ ?_;rotate_left
  ·rintro w' ⟨_,_,_,_,_⟩;go_simp;first|done|with_reducible rfl|rfl
  simp only[Act.put,LA];refine Tk1 (v:=?_) 6 hS0 ?_ ?_;rotate_left
  ·rintro w' ⟨_,_,_,_,_⟩;go_simp;first|done|with_reducible rfl|rfl
  simp only[Act.put,LA];refine Tk1 (v:=?_) 11 hS0 ?_ ?_;rotate_left
  ·rintro w' ⟨_,_,_,_,_⟩;go_simp;first|done|with_reducible rfl|rfl
  simp only[Act.put,LA];refine Tk1 (v:=?_) 15 hS0 ?_ ?_;rotate_left
  ·rintro w' ⟨_,_,_,_,_⟩;go_simp;first|done|with_reducible rfl|rfl
  simp only[Act.put,LA];refine Tk1 (v:=?_) 19 hS0 ?_ ?_;rotate_left
  ·rintro w' ⟨_,_,_,_,_⟩;go_simp;first|done|with_reducible rfl|rfl
  simp only[Act.put,LA];refine Tk1 (v:=?_) 20 hS0 ?_ ?_;rotate_left
  ·rintro w' ⟨_,_,_,_,_⟩;go_simp;first|done|with_reducible rfl|rfl
  simp only[Act.put,LA];refine Rd1 2 fun K hK=>?_;go_simp;refine(zlt u.x.s u.x.a u.x.c u.x.xs _ Q0.out.r.x.us (by omega)).mono ?_;rintro e v1 ⟨rfl,b_⟩;rw[zhY Q0.out.r.x,←HTX.out];dsimp only;have Q1:=Hh (Q0.out.next b_);have hS1:=Q1.out.s;refine hK.out _ _ hS1 (fun _=>?_);clear hK K b_;refine Tk1 (v:=?_) 3 hS1 ?_ ?_;rotate_left
  ·rintro w' ⟨_,_,_,_,_⟩;go_simp;first|done|with_reducible rfl|rfl
  simp only[Act.put,LA];refine Tk1 (v:=?_) 4 hS1 ?_ ?_;rotate_left
  ·rintro w' ⟨_,_,_,_,_⟩;go_simp;first|done|with_reducible rfl|rfl
  simp only[Act.put,LA];refine Rd1 7 fun K hK=>?_;go_simp;refine(zlt u.y.s u.y.a u.y.c u.y.xs _ Q1.out.r.y.us (by omega)).mono ?_;rintro e v2 ⟨rfl,b_⟩;rw[zhY Q1.out.r.y,←HTY.out];dsimp only;have Q2:=Hh (Q1.out.next b_);have hS2:=Q2.out.s;refine hK.out _ _ hS2 (fun _=>?_);clear hK K b_;refine Tk1 (v:=?_) 8 hS2 ?_ ?_;rotate_left
  ·rintro w' ⟨_,_,_,_,_⟩;go_simp;first|done|with_reducible rfl|rfl
  simp only[Act.put,LA];refine Tk1 (v:=?_) 9 hS2 ?_ ?_;rotate_left
  ·rintro w' ⟨_,_,_,_,_⟩;go_simp;first|done|with_reducible rfl|rfl
  simp only[Act.put,LA];refine Tk1 (v:=?_) 10 hS2 ?_ ?_;rotate_left
  ·rintro w' ⟨_,_,_,_,_⟩;go_simp;first|done|with_reducible rfl|rfl
  simp only[Act.put,LA];refine Rd1 12 fun K hK=>?_;go_simp;refine(zgq wd _ (by have:=HWD.out;omega)).mono ?_;rintro e v3 ⟨rfl,rfl⟩;rw[←HTW.out];dsimp only;have Q3:=Q2;have hS3:=Q3.out.s;refine hK.out _ _ hS3 (fun _=>?_);clear hK K;refine Tk1 (v:=?_) 13 hS3 ?_ ?_;rotate_left
  ·rintro w' ⟨_,_,_,_,_⟩;go_simp;first|done|with_reducible rfl|rfl
  simp only[Act.put,LA];refine Tk1 (v:=?_) 14 hS3 ?_ ?_;rotate_left
  ·rintro w' ⟨_,_,_,_,_⟩;go_simp;first|done|with_reducible rfl|rfl
  simp only[Act.put,LA];refine Rd1 16 fun K hK=>?_;go_simp;refine(zgq hi _ (by have:=HHI.out;omega)).mono ?_;rintro e v4 ⟨rfl,rfl⟩;rw[←HTH.out];dsimp only;have Q4:=Q3;have hS4:=Q4.out.s;refine hK.out _ _ hS4 (fun _=>?_);clear hK K;refine Tk1 (v:=?_) 17 hS4 ?_ ?_;rotate_left
  ·rintro w' ⟨_,_,_,_,_⟩;go_simp;first|done|with_reducible rfl|rfl
  simp only[Act.put,LA];refine Tk1 (v:=?_) 18 hS4 ?_ ?_;rotate_left
  ·rintro w' ⟨_,_,_,_,_⟩;go_simp;first|done|with_reducible rfl|rfl
  simp only[Act.put,LA];refine Tk1 (v:=?_) 21 hS4 ?_ ?_;rotate_left
  ·rintro w' ⟨_,_,_,_,_⟩;go_simp;first|done|with_reducible rfl|rfl
  simp only[Act.put,LA];refine Tk1 (v:=?_) 22 hS4 ?_ ?_;rotate_left
  ·rintro w' ⟨_,_,_,_,_⟩;go_simp;first|done|with_reducible rfl|rfl
  simp only[Act.put,LA];refine Tk1 (v:=?_) 23 hS4 ?_ ?_;rotate_left
  ·rintro w' ⟨_,_,_,_,_⟩;go_simp;first|done|with_reducible rfl|rfl
  simp only[Act.put,LA];refine wpAnyH_done (by kernel_rfl) ?_ _;refine NoPanic.normal ?_;obtain⟨g0,g1,g2,g3,g4⟩:=Gr.cells Q4.out.gk;go_wp2_with (first
   | (go_at_call 33;go_loud (refine(zdE u _ Q4.out.r.t HZZ.out.1 HZZ.out.2).mono ?_;rintro e w5 ⟨A5,c5,n5,rfl,l5,ts5,b_⟩;have Q5:=Hh (Q4.out.next b_);have L5:=Hh l5;have T5:=Hh ts5;have hn5:n5≤10000:=(by rw[←l5];exact zgZ HZZ.out.1 HZZ.out.2);have hc5:=ts5.cap;rw[l5] at hc5;clear b_ l5 ts5 g0 g1 g2 g3 g4))
   | (go_at_call 76;go_loud (refine(zmD A5 c5 n5 _ _ T5.out L5.out (by omega) (zdr HZZ.out.1 HZZ.out.2)).mono ?_;rintro e w6 ⟨rfl,b_⟩;have Q6:=Hh (Q5.out.next b_);obtain⟨tl,htl⟩:∃t:ByteArray,t=⟨(zmC (zat u.L)).toArray⟩:=⟨_,rfl⟩;rw[←htl];have HTL:=Hh htl;have ztl:tl.size≤600000:=(by rw[htl,zaT];exact zti (zdr HZZ.out.1 HZZ.out.2) (by have:=zgZ HZZ.out.1 HZZ.out.2;omega));have mz:(9223372036854775807<11+tx.size+1+ty.size+1+4+tw.size+6+th.size+9+s.size+1+tl.size)=False:=eq_false (by have:=HS.out;omega);clear htl b_)))
  go_ret2;refine⟨0,zjX s.data.toList X Y u.L,?_,⟨X,Y,u.L,.inr ⟨rfl,CK.out,GI.out⟩,.inr ⟨rfl,rfl⟩⟩,Q6.out.o.b⟩;have key:∀t:ByteArray,t.data.toList=zjX s.data.toList X Y u.L→Ending.returned (.tuple #[.string t,.int .i64 0])=Ending.returned (.tuple #[.string ⟨(zjX s.data.toList X Y u.L).toArray⟩,.int .i64 0]):=fun t ht=>by
   rw[show t=⟨(zjX s.data.toList X Y u.L).toArray⟩ from zjV ht]
  refine key _ ?_;unfold zjX;rw[←HWE.out,←HHE.out];simp[ByteArray.data_append,zug,zuh,zui,zuj,HTX.out,HTY.out,HTW.out,HTH.out,HTL.out]
 ·have t1:(er != 0)=true:=by rw[bne_iff_ne];exact he
  have HE:=Hh he;clear he;go_wp2_with fail;go_ret2;exact⟨er,[],rfl,⟨0,0,[],.inl ⟨HE.out,CK.out,rfl,rfl,rfl⟩,.inl ⟨HE.out,rfl⟩⟩,OG.out.b⟩
theorem zpq {t:Tr}{n:Nat}{x y w h:Int}(hn:t.lv.toNat=n)(hc:∀X Y,zas t X Y≠0→x≤X∧X≤x+w-1∧y≤Y∧Y≤y+h-1)
  (tw:∃Y,zas t x Y≠0) (te:∃Y,zas t (x+w-1) Y≠0) (tn:∃X,zas t X y≠0) (ts:∃X,zas t X (y+h-1)≠0):BoxT t n x y w h:=by
 have hM:∀a b,zad t a b=zas t (a-p2 (n-1)) (b-p2 (n-1)):=fun a b=>by
  unfold zas;rw[hn,Int.sub_add_cancel,Int.sub_add_cancel]
 have key:∀{ax e:Nat} {D:Int},(∀X Y,zas t X Y≠0→D≤ds ax e n (X+p2 (n-1)) (Y+p2 (n-1)))→(∃X Y,zas t X Y≠0∧D=ds ax e n (X+p2 (n-1)) (Y+p2 (n-1)))→EdS ax e n (fun u=>u=t) D:=fun h1 h2=>by
  refine⟨fun u hu a b hab=>?_,?_⟩
  ·have hu':u=t:=hu;subst hu';rw[hM] at hab;have:=h1 _ _ hab
   rwa [Int.sub_add_cancel,Int.sub_add_cancel] at this
  ·obtain⟨X,Y,k1,k2⟩:=h2;refine⟨t,X+p2 (n-1),Y+p2 (n-1),rfl,?_,k2⟩;rw[hM,Int.add_sub_cancel,Int.add_sub_cancel];exact k1
 obtain⟨Y1,a1⟩:=tw;obtain⟨Y2,a2⟩:=te;obtain⟨X3,a3⟩:=tn;obtain⟨X4,a4⟩:=ts;refine⟨key (fun X Y hX=>?_) ⟨_,_,a1,rfl⟩,key (fun X Y hX=>?_) ⟨_,_,a3,rfl⟩,key (fun X Y hX=>?_) ⟨_,_,a2,?_⟩,key (fun X Y hX=>?_) ⟨_,_,a4,?_⟩⟩
 ·have:=hc X Y hX;show x+p2 (n-1)≤X+p2 (n-1);omega
 ·have:=hc X Y hX;show y+p2 (n-1)≤Y+p2 (n-1);omega
 ·have:=hc X Y hX;show p2 n-w-(x+p2 (n-1))≤p2 n-1-(X+p2 (n-1));omega
 ·show p2 n-w-(x+p2 (n-1))=p2 n-1-(x+w-1+p2 (n-1));omega
 ·have:=hc X Y hX;show p2 n-h-(y+p2 (n-1))≤p2 n-1-(Y+p2 (n-1));omega
 ·show p2 n-h-(y+p2 (n-1))=p2 n-1-(y+h-1+p2 (n-1));omega
def zaB:List Nd:=[⟨1,0,1,0,0⟩,⟨1,0,0,1,0⟩,⟨1,1,1,0,0⟩,⟨1,1,0,0,0⟩,⟨2,1,2,3,4⟩,⟨3,0,0,0,5⟩]
def zbZ:List Cl:=[⟨1,0,1⟩,⟨2,1,1⟩,⟨0,2,1⟩,⟨1,2,1⟩,⟨2,2,1⟩]
def zhb:List (List UInt8):=[[0,1,0],[0,0,1],[1,1,1]]
def zbF:ByteArray:=⟨#[66,51,47,83,50,51]⟩
theorem zjY:zbo zbZ=zbZ:=by kernel_rfl
theorem zeT:zbo zbZ=zkS zaB:=by kernel_rfl
theorem zgs:OfL zaB zaB.length=zaB:=by kernel_rfl
theorem ziV:zce (zbo zbZ)=3:=by kernel_rfl
theorem zeU:zac zaB=true:=by kernel_rfl
theorem zjZ {out:List Nd}(h:zcr (zbo zbZ) out):out=zaB:=by
 have k:=zfV zeU;rw[zgs,←zeT] at k;exact zmf h k fun _ _=>rfl
theorem ziW:zcr zbZ zaB:=by
 have k:=zfV zeU;rw[zgs,←zeT,zjY] at k;exact k
theorem zpr (x y:Int)(h:lk zbZ x y≠0):0≤x∧x≤2∧0≤y∧y≤2:=by
 unfold zbZ lk lk lk lk lk lk at h;dsimp only at h;split at h
 ·omega
 ·split at h
  ·omega
  ·split at h
   ·omega
   ·split at h
    ·omega
    ·split at h
     ·omega
     ·exact absurd rfl h
theorem zeO:BxV zaB 6 true 0 0 3 3:=by
 have hd:=ziW.den;refine .inr ⟨by omega,rfl,zpq (by kernel_rfl) (fun X Y h=>?_) ⟨2,?_⟩ ⟨2,?_⟩ ⟨1,?_⟩ ⟨1,?_⟩⟩
 ·have:=zpr X Y (by rw[←hd];exact h);omega
 ·rw[show(6:Nat)=zaB.length from rfl,hd]
  decide
 ·rw[show(6:Nat)=zaB.length from rfl,hd]
  decide
 ·rw[show(6:Nat)=zaB.length from rfl,hd]
  decide
 ·rw[show(6:Nat)=zaB.length from rfl,hd]
  decide
theorem zmE:zeZ (picM (den zaB 6) 0 0) 3 3=zhb:=by
 have e:picM (den zaB 6) 0 0=fun r c=>lk zbZ (0+c) (0+r):=by
  funext r c;exact ziW.den _ _
 rw[e];show zeZ (fun r c=>lk zbZ (0+c) (0+r)) 3 3=zhb;kernel_rfl
theorem go13:GoI zaB 6 3 0 0 0 zhb:=.inr ⟨by omega,true,0,0,3,3,zeO,.inr ⟨by omega,rfl,rfl,rfl,zmE.symm⟩⟩
theorem zuW:WinP zaB 6 3:=⟨0,0,3,3,true,zeO,by omega,by omega⟩
theorem zun:mayP zbF zaB=true:=by kernel_rfl
theorem ck13:CkI 4 zbF zaB 6 3 0 0 :=
 ⟨fun h=>by rw[zun] at h;exact absurd h (by decide),fun _=>.inl ⟨rfl,.inr ⟨zuW,.inl rfl⟩⟩⟩
theorem gf13:GfI 4 zbF zaB 6 3 0 0 0 0 zhb:=.inr ⟨rfl,ck13,go13⟩
def zrL:List UInt8:=[35,67,88,82,76,69,32,80,111,115,61,48,44,48,10,120,32,61,32,51,44,32,121,32,61,32,51,44,32,114,117,108,101,32,61,32,66,51,47,83,50,51,10,98,111,36,50,98,111,36,51,111,33,10]
theorem zps:zjX zbF.data.toList 0 0 zhb=zrL:=by kernel_rfl
theorem fc13 {er:Int}{T:List UInt8}(h:FcI zbF zaB 6 3 0 er T):er=0∧T=zrL:=by
 obtain⟨e1,e2⟩:=h.one ⟨0,0,zhb,gf13,.inr ⟨rfl,rfl⟩⟩;exact⟨e1,e2.trans zps⟩
theorem zuX {er:Int}{T:List UInt8}(h:FcI zbF zaB 6 2 0 er T):er=5:=by
 obtain⟨X,Y,L,g,-⟩:=h;have key:∀e,CkI 4 zbF zaB 6 2 0 e→e=5:=fun e k=>by
  rcases k.2 (by rw[zun];decide) with⟨-,h1⟩|⟨h1,-⟩
  ·rcases h1 with h1|⟨⟨X,Y,V,H,ok,b,h2,-⟩,-⟩
   ·omega
   ·rcases b with⟨h0,-⟩|⟨-,-,b⟩
    ·omega
    ·rcases zeO with⟨h0,-⟩|⟨-,-,b2⟩
     ·omega
     ·have:=b.one b2;omega
  ·exact h1
 rcases g with⟨-,g,-⟩|⟨rfl,g,-⟩
 ·exact key _ g
 ·exact key _ g
theorem zrM (box:Int)(hb:box≤80):∀X Y L,mayP zbF zaB=true→GoI zaB 6 box 0 X Y L→(∀r∈L,r.length≤99)∧L.length≤99:=fun X Y L _ g=>by
 rcases g with⟨-,h0,-⟩|⟨-,ok,X',Y',V,H,b,h1⟩
 ·omega
 ·rcases h1 with⟨-,h0,-⟩|⟨h2,-,-,-,rfl⟩
  ·omega
  ·rw[ziJ];refine⟨fun r hr=>?_,by omega⟩;obtain⟨k,-,rfl⟩:=List.mem_map.1 hr;rw[zef];omega
def zlE:List (List UInt8):=[[0,2,2],[0,0,0],[25,0,0]]
def zrN:List (List UInt8):=[[46],[50,66],[50,36],[112,65],[33]]
theorem zpt:zat zlE=zrN:=by kernel_rfl
def cv13 (a b c d e f g h:Bw):List Cv:=[⟨a.s,a.a,a.c,a.xs,false,none,0,[],1⟩,⟨b.s,b.a,b.c,b.xs,c.s,c.a,c.c,c.xs,1⟩,⟨false,none,0,[],d.s,d.a,d.c,d.xs,1⟩,⟨e.s,e.a,e.c,e.xs,f.s,f.a,f.c,f.xs,1⟩,⟨g.s,g.a,g.c,g.xs,h.s,h.a,h.c,h.xs,1⟩]
structure N13 (W:World)(a b c d e f g h:Bw):Prop where
 a:a.R W 1
 b:b.R W 2
 c:c.R W 1
 d:d.R W 2
 e:e.R W 1
 f:f.R W 2
 g:g.R W 2
 h:h.R W 2
theorem zpu {W:World}{a b c d e f g h:Bw}(k:N13 W a b c d e f g h):(cv13 a b c d e f g h).map Cv.cl=zbZ:=by
 show[(⟨ival a.s a.xs,ival false [],_⟩:Cl),⟨ival b.s b.xs,ival c.s c.xs,_⟩,⟨ival false [],ival d.s d.xs,_⟩,⟨ival e.s e.xs,ival f.s f.xs,_⟩,⟨ival g.s g.xs,ival h.s h.xs,_⟩]=_;rw[k.a.v,k.b.v,k.c.v,k.d.v,k.e.v,k.f.v,k.g.v,k.h.v];rfl
theorem ztj {w:World}{g:Nat}(v1 v2 v3 v4 v5:Cv)(h:w.heap[g]?=some (.cells #[.bool v1.sx,.slice v1.ax v1.xs.length v1.cx,.bool v1.sy,.slice v1.ay v1.ys.length v1.cy,.int .u8 v1.st,.bool v2.sx,.slice v2.ax v2.xs.length v2.cx,.bool v2.sy,.slice v2.ay v2.ys.length v2.cy,.int .u8 v2.st,.bool v3.sx,.slice v3.ax v3.xs.length v3.cx,.bool v3.sy,.slice v3.ay v3.ys.length v3.cy,.int .u8 v3.st,.bool v4.sx,.slice v4.ax v4.xs.length v4.cx,.bool v4.sy,.slice v4.ay v4.ys.length v4.cy,.int .u8 v4.st,.bool v5.sx,.slice v5.ax v5.xs.length v5.cx,.bool v5.sy,.slice v5.ay v5.ys.length v5.cy,.int .u8 v5.st] 78))(h1:CvU w v1)(h2:CvU w v2)(h3:CvU w v3)(h4:CvU w v4)(h5:CvU w v5):Cs w (some ⟨g,0,none⟩) 5 [v1,v2,v3,v4,v5]:=by
 refine⟨fun x hx=>?_,Nat.le_refl _,by simp[maxLen],fun _=>⟨g,0,rfl,(Array.getElem?_eq_some_iff.1 h).1,fun i hi=>?_⟩⟩
 ·simp only[List.mem_cons,List.not_mem_nil,or_false] at hx;rcases hx with rfl|rfl|rfl|rfl|rfl
  ·exact h1
  ·exact h2
  ·exact h3
  ·exact h4
  ·exact h5
 ·match i,hi with
  | 0,_=>refine⟨?_,?_,?_,?_,?_⟩ <;> (rw[cell_of_row _ _ _ _ _ _ h];rfl)
  | 1,_=>refine⟨?_,?_,?_,?_,?_⟩ <;> (rw[cell_of_row _ _ _ _ _ _ h];rfl)
  | 2,_=>refine⟨?_,?_,?_,?_,?_⟩ <;> (rw[cell_of_row _ _ _ _ _ _ h];rfl)
  | 3,_=>refine⟨?_,?_,?_,?_,?_⟩ <;> (rw[cell_of_row _ _ _ _ _ _ h];rfl)
  | 4,_=>refine⟨?_,?_,?_,?_,?_⟩ <;> (rw[cell_of_row _ _ _ _ _ _ h];rfl)
theorem zuo {W:World}{a b c d e f g h:Bw}(k:N13 W a b c d e f g h):mayB (cv13 a b c d e f g h) 5=true:=by
 have hn:∀{z:Bw} {n:Int},z.R W n→0≤n∧n<8→z.xs.length≤50:=fun r hz=>zaR r (zcJ (by omega)).1 (zcJ (by omega)).2;refine zta.2 ⟨?_,?_,?_⟩
 ·unfold zbW;rw[Bool.or_eq_false_iff];refine⟨decide_eq_false (by show ¬ ((5:Int)<5);omega),List.any_eq_false.2 fun v hv=>?_⟩;unfold vast;rw[Bool.or_eq_true,decide_eq_true_iff,decide_eq_true_iff];have l1:=hn k.a (by omega);have l2:=hn k.b (by omega);have l3:=hn k.c (by omega);have l4:=hn k.d (by omega);have l5:=hn k.e (by omega);have l6:=hn k.f (by omega);have l7:=hn k.g (by omega);have l8:=hn k.h (by omega);simp only[cv13,List.mem_cons,List.not_mem_nil,or_false] at hv;rcases hv with rfl|rfl|rfl|rfl|rfl <;> (dsimp only[List.length_nil];omega)
 ·refine List.all_eq_true.2 fun v hv=>?_;simp only[cv13,List.mem_cons,List.not_mem_nil,or_false] at hv;rcases hv with rfl|rfl|rfl|rfl|rfl <;> (unfold okC;rw[Bool.and_eq_true])
  ·exact⟨zaJ k.a.cn,rfl⟩
  ·exact⟨zaJ k.b.cn,zaJ k.c.cn⟩
  ·exact⟨rfl,zaJ k.d.cn⟩
  ·exact⟨zaJ k.e.cn,zaJ k.f.cn⟩
  ·exact⟨zaJ k.g.cn,zaJ k.h.cn⟩
 ·rw[zpu k,ziV];omega
end Go.Proofs.YtfjajpnfjjdnpaaGreatDoor
