import Derived.Test.YtfjajpnfjjdnpaaGreatDoorWGdRo
import Derived.Laws.RangeString
import Derived.Deep.LoopGhost

set_option linter.unusedVariables false
set_option linter.unusedSimpArgs false
set_option maxRecDepth 100000
set_option maxHeartbeats 6400000
namespace Go.Proofs.YtfjajpnfjjdnpaaGreatDoor
open Go.RowKit Num Nds
structure Rc (w:World)(u:Gr)(X Y:Int)(v:Value)(N:List Cv)(W:World):Prop where
 b:Below w.heap.size w W
 k:W.heap[w.heap.size]?=some u.obj
 r0:u.R w X Y
 rl:RlO (w.heap.size+1) (fun _=>False) W v N
end Go.Proofs.YtfjajpnfjjdnpaaGreatDoor

namespace Go.Proofs.YtfjajpnfjjdnpaaGreatDoor
open Go.RowKit Num Nds Txt
theorem Ns.patb {w:World}{A A0:Option Addr}{c n0 c0 g k:Nat}{l:List Nd}{u:Value}{s0:ByteArray}{t:TypeId}(h:Ns w A c l)(hb:w.heap[g]?=some (.cells #[.string s0,.slice A0 n0 c0] t)):Ns (w.setCell ⟨g,k,none⟩ u) A c l :=
 ⟨h.1,h.2.1,h.2.2.1,fun h0=>by
  obtain⟨b,off,e,hlt,hc⟩:=h.2.2.2 h0;have hne:b≠g:=fun e2=>by
   subst e2;have h1:=(hc 0 h0).1;rw[cell_of_row w b _ _ _ (0,0) hb] at h1;rcases off with _|_|off
   ·simp at h1
   ·simp at h1
   ·simp at h1
  exact⟨b,off,e,by simpa [World.setCell] using hlt,fun i hi=>(hc i hi).below (Below.heap_setCell w ⟨g,k,none⟩ u b hne)⟩⟩
def zwv (s:ByteArray)(l:List Cv)(most:Int)(w:World)(e:Ending)(w':World):Prop :=
 ∃A' c' qn q ok,e=.returned (.tuple #[.agg #[.string s,.slice A' qn c'],.bool (ok&&zcH s.data.toList)])∧q.length=qn∧Ns w' A' c' q∧(A'=none→c'=0)∧Below w.heap.size w w'∧ok=mayB l most∧(ok=false→q=[])∧(ok=true→zaX (zaP (l.map Cv.cl)) q)
theorem zjd (A:Option Addr)(c n:Nat)(most:Int)(s:ByteArray)(l:List Cv)(w:World)(hs:s.size≤maxLen)(h:Cs w A c l)(hn:l.length=n)(hm:most≤600) :
  Calls Tryz.prog 13 #[.string s,.slice A n c,.int .i64 most] w (zwv s l most w):=by
 have hcap:=h.cap;rw[hn] at hcap;have hb:=(Below.refl w.heap.size w).alloc (Nat.le_refl _) (.cells #[.string ⟨#[]⟩,.slice none 0 0] 30);have hq:=heap_alloc_new w (.cells #[.string ⟨#[]⟩,.slice none 0 0] 30);have HC:=Hh (h.below hb);have HN:=Hh hn;have HB:=Hh hb;have HQ:=Hh hq;have HS:=Hh hs;obtain⟨R,hR⟩:∃R,R=zcH s.data.toList:=⟨_,rfl⟩;have HR:=Hh hR;have q0:True:=trivial;clear h hn hb hq hs hR;go_enter Tryz.func13,Tryz.ntmps13;go_upto_region 2 with(have _t:=q0;go_at_call 49;clear _t;go_loud (refine(zqr A c n most l _ HC.out HN.out hm).mono ?_;rintro e w2 ⟨A5,c5,qn,q,ok,rfl,l5,n5,a5,b5,hok,hno,hqo⟩;have hc5:=n5.cap;rw[l5] at hc5;have H5:=Hh l5;have N5:=Hh n5;have A5':=Hh a5;have L5:=Hh b5.size;have B5:=Hh (HB.out.trans (b5.mono HB.out.size));have HQ:=Hh ((b5.block _ (zag HQ.out)).trans HQ.out);have OK:=Hh hok;have NO:=Hh hno;have QO:=Hh hqo;clear l5 n5 a5 b5 hok hno hqo;have q1:=q0;clear q0))
 have hb2:=(Below.refl w2.heap.size w2).alloc (Nat.le_refl _) (.cells #[.slice A5 qn c5] 28);have N6:=Hh (N5.out.below hb2);have B6:=Hh (B5.out.trans (hb2.mono B5.out.size));have Q6:=Hh ((hb2.block _ (zag HQ.out)).trans HQ.out);clear hb2 HQ B5 N5;obtain⟨W0,hW0⟩:∃W0:World,W0=(w2.alloc (.cells #[.slice A5 qn c5] 28)).drew:=⟨_,rfl⟩;have hd:=Below.drew' (Below.refl (w2.alloc (.cells #[.slice A5 qn c5] 28)).heap.size (w2.alloc (.cells #[.slice A5 qn c5] 28)));rw[←hW0] at hd;have hS0:=zab ((hd.block _ (by simp)).trans (heap_alloc_new w2 (.cells #[.slice A5 qn c5] 28)));have N7:=Hh (N6.out.below hd);have B7:=Hh (B6.out.trans (hd.mono B6.out.size));have Q7:=(hd.block _ (zag Q6.out)).trans Q6.out;obtain⟨r0,r1⟩:=zak Q7;have r2:=frozen_of_row W0 w.heap.size 0 _ _ Q7;have r3:=frozen_of_row W0 w.heap.size 1 _ _ Q7;have hne:w.heap.size<w2.heap.size:=by have:=L5.out;rw[World.size_alloc] at this;omega
 have Q8:=Hh Q7;clear N6 B6 Q6 hd Q7;cases hok:ok with
 | false =>
  subst hok;refine wp_region_noPanic ?_;refine wp_region_held (S:=fun w'=>w'.cell? ⟨w2.heap.size,0,none⟩=some (.slice A5 qn c5)) (by kernel_rfl) ?_;change wpAnyH _ _ _ _ _ _ _ _ (w2.alloc (.cells #[.slice A5 qn c5] 28)).drew;rw[←hW0];clear hW0;refine Tk1 (v:=?_) 0 hS0 ?_ ?_;rotate_left
  ·rintro w' _;go_simp;first|done|with_reducible rfl|rfl
  simp only[Act.put,LA];refine Tk1 (v:=?_) 1 hS0 ?_ ?_;rotate_left
  ·rintro w' _;go_simp;first|done|with_reducible rfl|rfl
  simp only[Act.put,LA];refine Tk1 (v:=?_) 2 hS0 ?_ ?_;rotate_left
  ·rintro w' _;go_simp;first|done|with_reducible rfl|rfl
  simp only[Act.put,LA];refine Tk1 (v:=?_) 3 hS0 ?_ ?_;rotate_left
  ·rintro w' _;go_simp;first|done|with_reducible rfl|rfl
  simp only[Act.put,LA];refine Tk1 (v:=?_) 4 hS0 ?_ ?_;rotate_left
  ·rintro w' _;go_simp;first|done|with_reducible rfl|rfl
  simp only[Act.put,LA];refine Tk0 5 hS0 ?_;simp only[Act.put,LA];refine Tk0 6 hS0 ?_;simp only[Act.put,LA];refine Tk1 (v:=?_) 7 hS0 ?_ ?_;rotate_left
  ·rintro w' _;go_simp;first|done|with_reducible rfl|rfl
  simp only[Act.put,LA];refine Rd1 8 fun K hK=>?_;go_simp;refine hK.out _ _ (by rw[World.cell?_setCell_other _ _ _ _ (by simp),World.cell?_setCell_other _ _ _ _ (by simp)];exact hS0) (fun hS9=>?_);clear hK K;refine Tk1 (v:=?_) 9 hS9 ?_ ?_;rotate_left
  ·rintro w' _;go_simp;first|done|with_reducible rfl|rfl
  simp only[Act.put,LA];refine wpAnyH_done (by kernel_rfl) ?_ _;refine NoPanic.normal ?_;go_wp2_with fail;have QV:=(heap_setCell_same _ w.heap.size 1 _ _ (.slice A5 qn c5) ((heap_setCell_same W0 w.heap.size 0 _ _ (.string s) Q8.out).trans rfl)).trans rfl;obtain⟨e0,e1⟩:=zak QV;refine bodyPost_ret (v:=.tuple #[.agg #[.string s,.slice A5 qn c5],.bool false]) (by simp[results,Tryz.results13,go_sem,e0,e1]) rfl ?_;have BV:=(B7.out.setCell (p:=⟨w.heap.size,0,none⟩) (Nat.le_refl _) (.string s)).setCell (p:=⟨w.heap.size,1,none⟩) (Nat.le_refl _) (.slice A5 qn c5);refine⟨A5,c5,qn,q,false,rfl,H5.out,?_,A5'.out,BV,OK.out,fun _=>NO.out (by trivial),fun h=>by(cases h)⟩;exact(N7.out.patb Q8.out).patb ((heap_setCell_same W0 w.heap.size 0 _ _ (.string s) Q8.out).trans rfl)
 | true =>
  subst hok;refine wp_region_noPanic ?_;refine wp_region_held (S:=fun w'=>w'.cell? ⟨w2.heap.size,0,none⟩=some (.slice A5 qn c5)) (by kernel_rfl) ?_;change wpAnyH _ _ _ _ _ _ _ _ (w2.alloc (.cells #[.slice A5 qn c5] 28)).drew;rw[←hW0];clear hW0;refine Tk1 (v:=?_) 0 hS0 ?_ ?_;rotate_left
  ·rintro w' _;go_simp;first|done|with_reducible rfl|rfl
  simp only[Act.put,LA];refine Tk1 (v:=?_) 1 hS0 ?_ ?_;rotate_left
  ·rintro w' _;go_simp;first|done|with_reducible rfl|rfl
  simp only[Act.put,LA];refine Tk1 (v:=?_) 2 hS0 ?_ ?_;rotate_left
  ·rintro w' _;go_simp;first|done|with_reducible rfl|rfl
  simp only[Act.put,LA];refine Tk1 (v:=?_) 3 hS0 ?_ ?_;rotate_left
  ·rintro w' _;go_simp;first|done|with_reducible rfl|rfl
  simp only[Act.put,LA];refine Tk1 (v:=?_) 4 hS0 ?_ ?_;rotate_left
  ·rintro w' _;go_simp;first|done|with_reducible rfl|rfl
  simp only[Act.put,LA];refine Tk1 (v:=?_) 5 hS0 ?_ ?_;rotate_left
  ·rintro w' _;go_simp;first|done|with_reducible rfl|rfl
  simp only[Act.put,LA];refine Rd1 6 fun K hK=>?_;go_simp;refine(zoa s _ HS.out).mono ?_;rintro e w3 ⟨rfl,rfl⟩;rw[←HR.out];dsimp only;refine hK.out _ _ hS0 (fun _=>?_);clear hK K;refine Tk1 (v:=?_) 7 hS0 ?_ ?_;rotate_left
  ·rintro w' _;go_simp;first|done|with_reducible rfl|rfl
  simp only[Act.put,LA];refine Rd1 8 fun K hK=>?_;go_simp;refine hK.out _ _ (by rw[World.cell?_setCell_other _ _ _ _ (by simp),World.cell?_setCell_other _ _ _ _ (by simp)];exact hS0) (fun hS9=>?_);clear hK K;refine Tk1 (v:=?_) 9 hS9 ?_ ?_;rotate_left
  ·rintro w' _;go_simp;first|done|with_reducible rfl|rfl
  simp only[Act.put,LA];refine wpAnyH_done (by kernel_rfl) ?_ _;refine NoPanic.normal ?_;go_wp2_with fail;have QV:=(heap_setCell_same _ w.heap.size 1 _ _ (.slice A5 qn c5) ((heap_setCell_same W0 w.heap.size 0 _ _ (.string s) Q8.out).trans rfl)).trans rfl;obtain⟨e0,e1⟩:=zak QV;refine bodyPost_ret (v:=.tuple #[.agg #[.string s,.slice A5 qn c5],.bool R]) (by simp[results,Tryz.results13,go_sem,e0,e1]) rfl ?_;have BV:=(B7.out.setCell (p:=⟨w.heap.size,0,none⟩) (Nat.le_refl _) (.string s)).setCell (p:=⟨w.heap.size,1,none⟩) (Nat.le_refl _) (.slice A5 qn c5);refine⟨A5,c5,qn,q,true,by rw[HR.out];rfl,H5.out,?_,A5'.out,BV,OK.out,fun h=>by(cases h),fun _=>QO.out (by trivial)⟩;exact(N7.out.patb Q8.out).patb ((heap_setCell_same W0 w.heap.size 0 _ _ (.string s) Q8.out).trans rfl)
end Go.Proofs.YtfjajpnfjjdnpaaGreatDoor

namespace Go.Proofs.YtfjajpnfjjdnpaaGreatDoor.Digs
def isd (b:UInt8):Bool:=decide (48≤b.toNat∧b.toNat≤57)
def dig (d:Nat):UInt8:=UInt8.ofNat (48+d)
theorem zgV {d:Nat}(h:d<10):(dig d).toNat=48+d:=by
 unfold dig;simp;omega
theorem zuC {d:Nat}(h:d<10):isd (dig d)=true:=by
 unfold isd;rw[zgV h];simp;omega
theorem zuD {d e:Nat}(h:d<10)(k:e<10)(he:dig d=dig e):d=e:=by
 have h1:=zgV h;have h2:=zgV k;rw[he] at h1;omega
def low:Nat→Nat→List UInt8
 | 0,_=>[]
 | k+1,n=>dig (n%10) :: low k (n / 10)
theorem zaD:∀(k n:Nat),(low k n).length=k
 | 0,_=>rfl
 | k+1,n=>by simp[low,zaD k]
theorem low_add:∀(j k n:Nat),low (j+k) n=low j n++low k (n / 10^j)
 | 0,k,n=>by simp[low]
 | j+1,k,n=>by
  rw[show j+1+k=(j+k)+1 by omega];simp only[low,List.cons_append];rw[low_add j k (n / 10),Nat.div_div_eq_div_mul,Nat.pow_succ,Nat.mul_comm 10]
theorem zmA (k n:Nat):low (k+1) n=low k n++[dig (n / 10^k%10)]:=by
 rw[low_add k 1 n];rfl
theorem zqu:∀(k n:Nat),∀b∈low k n,isd b=true
 | 0,_,b,h=>by cases h
 | k+1,n,b,h=>by
  rcases List.mem_cons.1 h with rfl|h
  ·exact zuC (Nat.mod_lt _ (by decide))
  ·exact zqu k _ b h
theorem zqv:∀(k n m:Nat),low k (n+10^k*m)=low k n
 | 0,_,_=>rfl
 | k+1,n,m=>by
  simp only[low];have e:n+10^(k+1)*m=n+10*(10^k*m):=by rw[Nat.pow_succ,Nat.mul_comm (10^k) 10,Nat.mul_assoc]
  rw[e,Nat.add_mul_mod_self_left,Nat.add_mul_div_left _ _ (by decide),zqv k]
def num (l:List UInt8):Nat:=l.foldl (fun a b=>a*10+(b.toNat-48)) 0
theorem zsC (l:List UInt8)(b:UInt8):num (l++[b])=num l*10+(b.toNat-48):=by
 unfold num;rw[List.foldl_append];rfl
def size (n:Nat):Nat:=if n=0 then 0 else size (n / 10)+1
theorem zck:size 0=0:=by unfold size;simp
theorem zeJ {n:Nat}(h:0<n):size n=size (n / 10)+1:=by
 rw[size,if_neg (by omega)]
theorem zlh (n:Nat):n<10^size n:=by
 induction n using Nat.strongRecOn with
 | ind n ih =>
  rcases Nat.eq_zero_or_pos n with rfl|hn
  ·rw[zck];decide
  ·rw[zeJ hn,Nat.pow_succ];have:=ih (n / 10) (by omega);omega
theorem zqw {n:Nat}(h:0<n):10^(size n-1)≤n:=by
 induction n using Nat.strongRecOn with
 | ind n ih =>
  rw[zeJ h,Nat.add_sub_cancel];rcases Nat.eq_zero_or_pos (n / 10) with h0|h0
  ·rw[h0,zck];exact h
  ·have h1:=ih (n / 10) (by omega) h0;have h2:=zeJ h0;have h3:10^size (n / 10)=10^(size (n / 10)-1)*10:=by rw[←Nat.pow_succ];congr 1;omega
   omega
theorem zje {n k:Nat}(h:n<10^k):size n≤k:=by
 rcases Nat.eq_zero_or_pos n with rfl|hn
 ·rw[zck];exact Nat.zero_le _
 ·have h1:=zqw hn;rcases Nat.lt_or_ge k (size n) with hk|hk
  ·have h2:10^k≤10^(size n-1):=Nat.pow_le_pow_right (by decide) (by omega);omega
  ·exact hk
def digs (n:Nat):List UInt8:=if n=0 then [48] else (low (size n) n).reverse
def text (s:Bool)(n:Nat):List UInt8:=if s then 45 :: digs n else digs n
theorem zqx:∀(k n:Nat),num (low k n).reverse=n%10^k
 | 0,n=>by simp[low,num];omega
 | k+1,n=>by
  simp only[low,List.reverse_cons];rw[zsC,zqx k,zgV (Nat.mod_lt _ (by decide)),Nat.pow_succ,Nat.mul_comm (10^k) 10,Nat.mod_mul];omega
theorem num_digs (n:Nat):num (digs n)=n:=by
 unfold digs;split
 ·rename_i h;rw[h];rfl
 ·rw[zqx,Nat.mod_eq_of_lt (zlh n)]
theorem zmB:∀k,low k 0=List.replicate k 48
 | 0=>rfl
 | k+1=>by simp only[low,Nat.zero_mod,Nat.zero_div,zmB k,List.replicate_succ];rfl
theorem zsD {n k:Nat}(h:n<10^k):low k n=low (size n) n++List.replicate (k-size n) 48:=by
 have h1:=zje h;obtain⟨j,hj⟩:∃j,k=size n+j:=⟨k-size n,by omega⟩;rw[hj,low_add,Nat.div_eq_of_lt (zlh n),zmB,Nat.add_sub_cancel_left]
theorem zmC {n:Nat}(h:0<n):∃r d,low (size n) n=r++[dig d]∧0<d∧d<10:=by
 have h1:=zeJ h;have h2:=zqw h;have h3:=zlh n;obtain⟨k,hk⟩:∃k,size n=k+1:=⟨_,h1⟩;rw[hk,zmA];refine⟨_,_,rfl,?_,Nat.mod_lt _ (by decide)⟩;rw[hk] at h2 h3;rw[Nat.add_sub_cancel] at h2;rw[Nat.pow_succ] at h3;have h4:n / 10^k<10:=by rw[Nat.div_lt_iff_lt_mul (Nat.pow_pos (by decide))];omega
 have h5:1≤n / 10^k:=(Nat.le_div_iff_mul_le (Nat.pow_pos (by decide))).2 (by omega);omega
theorem zsE {n:Nat}(h:0<n):∃r d,digs n=dig d :: r∧0<d∧d<10:=by
 obtain⟨r,d,h1,h2,h3⟩:=zmC h;refine⟨r.reverse,d,?_,h2,h3⟩;unfold digs;rw[if_neg (by omega),h1];simp
theorem digs_isd (n:Nat):∀b∈digs n,isd b=true:=by
 unfold digs;split
 ·intro b hb;simp at hb;subst hb;rfl
 ·intro b hb;exact zqu _ _ b (by simpa using hb)
theorem digs_ne (n:Nat):digs n≠[]:=by
 rcases Nat.eq_zero_or_pos n with rfl|h
 ·unfold digs;simp
 ·obtain⟨r,d,h1,_⟩:=zsE h;rw[h1];simp
theorem zgW {n:Nat}(h:0<n):(digs n).length=size n:=by
 unfold digs;rw[if_neg (by omega)];simp[zaD]
theorem digs_length_le {n k:Nat}(h:n<10^k)(hk:0<k):(digs n).length≤k:=by
 rcases Nat.eq_zero_or_pos n with rfl|hn
 ·unfold digs;exact hk
 ·rw[zgW hn];exact zje h
end Go.Proofs.YtfjajpnfjjdnpaaGreatDoor.Digs

namespace Go.Proofs.YtfjajpnfjjdnpaaGreatDoor
open Go.RowKit Num Digs
abbrev u8v (b:UInt8):Value:=.int .u8 (b.toNat:Int)
def OwB (w:World)(base:Nat)(v:Value)(bs:List UInt8):Prop:=w.ownsRow base 5 1 v bs.length (bs.map u8v)
theorem OwB.below {w w':World}{base:Nat}{v:Value}{bs:List UInt8}(h:OwB w base v bs)(hb:Below w.heap.size w w'):OwB w' base v bs:=zbT h hb
theorem OwB.rd {w:World}{base:Nat}{A:Option Addr}{n c:Nat}{bs:List UInt8}(h:OwB w base (.slice A n c) bs):n=bs.length∧Rd w A c (bs.map u8v):=by
 have hn:n=bs.length:=by
  rcases h.2 with⟨h1,h2⟩|⟨g,cap,cur,h1,_⟩
  ·cases h1;omega
  ·cases h1;rfl
 subst hn;exact⟨rfl,Rd.own h⟩
theorem OwB.take {w:World}{base:Nat}{A:Option Addr}{n c:Nat}{bs:List UInt8}(h:OwB w base (.slice A n c) bs){k:Nat}(hk:k≤bs.length):OwB w base (.slice A k c) (bs.take k):=by
 have hl:(bs.take k).length=k:=by rw[List.length_take];omega
 refine⟨by simp,?_⟩;rw[hl];rcases h.2 with⟨h1,h2⟩|⟨g,cap,cur,h1,hb,hg,hn,hc,hs,ht⟩
 ·cases h1;obtain rfl:k=0:=by omega
  exact .inl ⟨rfl,rfl⟩
 ·cases h1;refine .inr ⟨g,c,cur,rfl,hb,hg,by omega,hc,hs,?_⟩;rw[Nat.mul_one] at ht ⊢;rw[List.map_take,←ht,List.take_take,Nat.min_eq_left hk]
theorem Tryz.info8:(Tryz.prog.info? 5).map (fun i=>(i.zero,i.size,i.bytes))=some (some (.int .u8 0),1,1):=by kernel_rfl
theorem zqy (A:Option Addr)(c k:Nat)(bs:List UInt8)(w:World)(h:Rd w A c (bs.map u8v))(hk:k≤bs.length)(hz:∀j,k≤j→j<bs.length→bs[j]?=some 48)(he:∀j,k=j+1→bs[j]?≠some 48) :
  Calls Tryz.prog 184 #[.slice A bs.length c,.int .u8 48] w fun e w'=>e=.returned (.slice A k c)∧w=w':=by
 have hcap:=h.1;have hmax:=h.2.1;rw[List.length_map] at hcap;unfold maxLen at hmax;have HH:=Hh h;have HZ:=Hh hz;have HE:=Hh he;clear h hz he;obtain⟨n,hn⟩:∃n,n=bs.length:=⟨_,rfl⟩;have HN:=Hh hn;rw[←hn] at hcap hk ⊢;clear hn;go_enter Tryz.func184,Tryz.ntmps184;go_wp2;go_loop [0] (fun v=>∃j:Nat,k≤j∧j≤n∧v=.slice A j c) (fun v=>match v with|.slice _ j _=>j|_=>0)
 case atStart=>exact⟨n,hk,Nat.le_refl _,rfl⟩
 case round =>
  obtain⟨j,hkj,hjn,rfl⟩:=hrel;rcases Nat.eq_zero_or_pos j with hj|hj
  ·subst hj;obtain rfl:k=0:=by omega
   go_wp2;go_ret;exact⟨rfl,rfl⟩
  ·obtain⟨t,rfl⟩:∃t,j=t+1:=⟨j-1,by omega⟩;have hl:t<bs.length:=by rw[←HN.out];omega
   obtain⟨b,off,rfl,hb,hc⟩:=HH.out.2.2 (by rw[List.length_map];omega);obtain⟨x,hx⟩:∃x,bs[t]?=some x:=⟨_,List.getElem?_eq_getElem hl⟩;have hct:=hc t (u8v x) (by rw[List.getElem?_map,hx];rfl);have hqz:((t+1:Nat):Int)=(t:Int)+1:=by omega
   have htz:((t:Int)).toNat=t:=by omega
   have htc:(t:Int)<((t:Int)+1):=by omega
   clear hc;by_cases hlt:k<t+1
   ·obtain rfl:x=48:=by
     have:=HZ.out t (by omega) hl;rw[hx] at this;exact Option.some.inj this
    have hct2:w.cell? ⟨b,off+t,none⟩=some (.int .u8 48):=hct;clear hct hx;go_wp2;refine⟨⟨t,by omega,by omega,rfl⟩,?_⟩;simp
   ·obtain rfl:k=t+1:=by omega
    have hne:¬ ((x.toNat:Int)=48):=fun e=>HE.out t rfl (by rw[hx];congr 1;exact UInt8.toNat_inj.1 (by rw[show(48:UInt8).toNat=48 from rfl];omega));clear hx;go_wp2;go_ret;exact⟨rfl,rfl⟩
theorem zqz (A:Option Addr)(c k:Nat)(bs:List UInt8)(w:World)(h:Rd w A c (bs.map u8v))(hk:k≤bs.length)(hz:∀j,k≤j→j<bs.length→bs[j]?=some 48)(he:∀j,k=j+1→bs[j]?≠some 48) :
  Calls Tryz.prog 148 #[.slice A bs.length c,.string ⟨#[48]⟩] w fun e w'=>e=.returned (.slice A k c)∧w=w':=by
 have hcap:=h.1;have hmax:=h.2.1;rw[List.length_map] at hcap;unfold maxLen at hmax;have C:=Hh (zqy A c k bs w h hk hz he);clear h hz he;generalize bs.length=n at C hk hcap ⊢;by_cases h0:0<n
 ·have hz:((n:Nat):Int)≠0:=by omega
  go_enter Tryz.func148,Tryz.ntmps148;go_wp2_with (go_at_call 184;refine C.out.mono ?_;rintro e w1 ⟨rfl,rfl⟩);go_ret;exact⟨rfl,rfl⟩
 ·obtain rfl:n=0:=by omega
  obtain rfl:k=0:=by omega
  go_enter Tryz.func148,Tryz.ntmps148;go_wp2_with fail;go_ret;exact⟨rfl,rfl⟩
def zeK (bs ys:List UInt8)(i:Nat)(j:Int):Prop :=
 ys.length=bs.length∧(i:Int)+j+1=bs.length∧∀k,k<bs.length→ys[k]?=if i≤k∧(k:Int)≤j then bs[k]? else bs[bs.length-1-k]?
theorem zeK.start (bs:List UInt8):zeK bs bs 0 ((bs.length:Int)-1) :=
 ⟨rfl,by omega,fun k hk=>by rw[if_pos (by omega)]⟩
theorem zeK.done {bs ys:List UInt8}{i:Nat}{j:Int}(h:zeK bs ys i j)(hij:¬ (i:Int)<j):ys=bs.reverse:=by
 obtain⟨h1,h2,h3⟩:=h;refine List.ext_getElem? fun k=>?_;rcases Nat.lt_or_ge k bs.length with hk|hk
 ·rw[h3 k hk,List.getElem?_reverse hk];split
  ·rename_i h;rw[show bs.length-1-k=k by omega]
  ·rfl
 ·rw[List.getElem?_eq_none (by omega),List.getElem?_eq_none (by simpa using hk)]
theorem zeK.next {bs ys:List UInt8}{i j:Nat}(h:zeK bs ys i j)(hij:i<j){x y:UInt8}(hx:ys[i]?=some x)(hy:ys[j]?=some y):zeK bs ((ys.set i y).set j x) (i+1) ((j:Int)-1):=by
 obtain⟨h1,h2,h3⟩:=h;have hi:=(List.getElem?_eq_some_iff.1 hx).1;have hj:=(List.getElem?_eq_some_iff.1 hy).1;refine⟨by simpa using h1,by omega,fun k hk=>?_⟩;have e1:=h3 i (by omega);have e2:=h3 j (by omega);rw[if_pos (by omega),hx] at e1;rw[if_pos (by omega),hy] at e2;rw[List.getElem?_set,List.getElem?_set];simp only[List.length_set];by_cases hkj:j=k
 ·subst hkj;rw[if_pos rfl,if_pos hj,if_neg (by omega),e1];congr 1;omega
 ·rw[if_neg hkj];by_cases hki:i=k
  ·subst hki;rw[if_pos rfl,if_pos hi,if_neg (by omega),e2];congr 1;omega
  ·rw[if_neg hki,h3 k hk];by_cases hc:i≤k∧(k:Int)≤j
   ·rw[if_pos hc,if_pos (by omega)]
   ·rw[if_neg hc,if_neg (by omega)]
theorem OwB.cell {w:World}{base g n c:Nat}{bs:List UInt8}(h:OwB w base (.slice (some ⟨g,0,none⟩) n c) bs){k:Nat}{x:UInt8}(hk:bs[k]?=some x):w.cell? ⟨g,k,none⟩=some (.int .u8 (x.toNat:Int)):=by
 have hl:=(List.getElem?_eq_some_iff.1 hk).1;obtain⟨rfl,_⟩:=h.rd;rw[World.ownsRow.cellAt h k (by omega),List.getElem?_map,hk];rfl
theorem OwB.set {w:World}{base g n c:Nat}{bs:List UInt8}(h:OwB w base (.slice (some ⟨g,0,none⟩) n c) bs)(k:Nat)(x:UInt8):OwB (w.setCell ⟨g,k,none⟩ (.int .u8 (x.toNat:Int))) base (.slice (some ⟨g,0,none⟩) n c) (bs.set k x):=by
 obtain⟨rfl,_⟩:=h.rd;unfold OwB;rw[List.map_set,List.length_set];exact(World.ownsRow.stored h k _).1
theorem OwB.free {w:World}{base g n c:Nat}{bs:List UInt8}(h:OwB w base (.slice (some ⟨g,0,none⟩) n c) bs)(k:Nat):w.frozen? ⟨g,k,none⟩=false:=by
 obtain⟨rfl,_⟩:=h.rd;exact World.ownsRow.frozenAt h k
theorem OwB.base {w:World}{base g n c:Nat}{bs:List UInt8}(h:OwB w base (.slice (some ⟨g,0,none⟩) n c) bs):base≤g:=by
 rcases h.2 with⟨h1,_⟩|⟨g',cap,cur,h1,h2,_⟩
 ·cases h1
 ·cases h1;exact h2
theorem OwB.shape {w:World}{base n c:Nat}{A:Option Addr}{bs:List UInt8}(h:OwB w base (.slice A n c) bs)(hn:0<bs.length):∃g,A=some ⟨g,0,none⟩:=by
 rcases h.2 with⟨h1,h2⟩|⟨g',cap,cur,h1,h2,_⟩
 ·omega
 ·cases h1;exact⟨_,rfl⟩
theorem zli (A:Option Addr)(n c base:Nat)(bs:List UInt8)(w:World)(h:OwB w base (.slice A n c) bs)(hl:bs.length≤9223372036854775807) :
  Calls Tryz.prog 103 #[.slice A n c] w fun e w'=>e=.returned (.tuple #[])∧OwB w' base (.slice A n c) bs.reverse∧Below base w w':=by
 obtain⟨hn,_⟩:=h.rd;have HH:=Hh h;have HN:=Hh hn;rw[←hn] at hl;clear h hn;go_enter Tryz.func103,Tryz.ntmps103;go_wp2;go_loopw [2,3] (fun iv jv wr=>∃(i:Nat) (j:Int) (ys:List UInt8),i≤n∧-1≤j∧iv=.int .i64 i∧jv=.int .i64 j∧zeK bs ys i j∧OwB wr base (.slice A n c) ys∧Below base w wr) (fun iv _ _=>n-(intOf iv).toNat)
 case atStart=>exact⟨0,(n:Int)-1,bs,by omega,by omega,rfl,by go_num,by rw[HN.out];exact zeK.start bs,HH.out,Below.refl _ _⟩
 case round =>
  obtain⟨i,j,ys,hi,hj,rfl,rfl,hT,hO,hB⟩:=hrel;have T:=Hh hT;have O:=Hh hO;have B:=Hh hB;have hjn:(i:Int)+j+1=n:=by rw[HN.out];exact hT.2.1
  have hyl:ys.length=n:=by rw[hT.1];exact HN.out.symm
  clear hT hO hB;by_cases hlt:(i:Int)<j
  ·obtain⟨jn,rfl⟩:∃jn:Nat,j=jn:=⟨j.toNat,by omega⟩;obtain⟨g,rfl⟩:=O.out.shape (by omega);have hij:i<jn:=by omega
   have hjl:jn<n:=by omega
   obtain⟨x,hx⟩:∃x,ys[i]?=some x:=⟨_,List.getElem?_eq_getElem (by omega)⟩;obtain⟨y,hy⟩:∃y,ys[jn]?=some y:=⟨_,List.getElem?_eq_getElem (by omega)⟩;have cx:=O.out.cell hx;have cy:=O.out.cell hy;have fx:=O.out.free i;have fy:=O.out.free jn;have TN:=Hh (T.out.next hij hx hy);have ON:=Hh ((O.out.set i y).set jn x);have BN:=Hh ((B.out.setCell (p:=⟨g,i,none⟩) O.out.base (.int .u8 (y.toNat:Int))).setCell (p:=⟨g,jn,none⟩) O.out.base (.int .u8 (x.toNat:Int)));have ne1:¬ i=jn:=by omega
   have ne2:¬ jn=i:=by omega
   have hc0:n≤c:=by have:=O.out.rd.2.1;simp at this;omega
   have hic:i<n:=by omega
   clear hx hy hyl hjn;go_wp2_with fail;go_region;go_wp2_with fail;exact⟨⟨i+1,(jn:Int)-1,_,by omega,by omega,by go_num,rfl,TN.out,ON.out,zaa BN.out 1⟩,by simp[intOf];omega⟩
  ·have F:=Hh (T.out.done hlt);clear hjn hyl;go_wp2;go_end0;exact⟨rfl,by rw[←F.out];exact O.out,B.out⟩
end Go.Proofs.YtfjajpnfjjdnpaaGreatDoor
