import Derived.Test.YtcippfaljoagaaaGreatDoorHRuL

set_option linter.unusedVariables false
set_option linter.unusedSimpArgs false
set_option maxRecDepth 100000
set_option maxHeartbeats 6400000
namespace Go.Proofs.YtcippfaljoagaaaGreatDoor
open Go.RowKit Num Nds Txt
def FcI (s:ByteArray)(q:List Nd)(n:Nat)(box nodes er:Int)(T:List UInt8):Prop :=
 ∃(X Y:Int) (L:List (List UInt8)),GfI 4 s q n box nodes er X Y L∧((er≠0∧T=[])∨(er=0∧T=zfK s.data.toList X Y L))
theorem FcI.one {s:ByteArray}{q:List Nd}{n:Nat}{box nodes er er':Int}{T T':List UInt8}(h:FcI s q n box nodes er T)(k:FcI s q n box nodes er' T'):er=er'∧T=T':=by
 obtain⟨X,Y,L,g,h1⟩:=h;obtain⟨X',Y',L',g',k1⟩:=k;obtain⟨rfl,rfl,rfl,rfl⟩:=g.one g';refine⟨rfl,?_⟩;rcases h1 with⟨h0,rfl⟩|⟨h0,rfl⟩
 ·rcases k1 with⟨-,rfl⟩|⟨k0,-⟩
  ·rfl
  ·exact absurd k0 h0
 ·rcases k1 with⟨k0,-⟩|⟨-,rfl⟩
  ·exact absurd h0 k0
  ·rfl
def zvA (s:ByteArray)(q:List Nd)(n:Nat)(box nodes:Int)(w:World)(e:Ending)(w':World):Prop :=
 ∃er T,e=.returned (.tuple #[.string ⟨List.toArray T⟩,.int .i64 er])∧FcI s q n box nodes er T∧Below w.heap.size w w'
structure Oc (w:World)(A:Option Addr)(n c:Nat)(q:List Nd)(s:ByteArray)(box nodes:Int)(g6:Nat)(u:Gr)(X Y:Int)(W:World):Prop where
 o:Og w A n c q s box nodes W
 gk:W.heap[g6]?=some u.obj
 r:u.R W X Y
theorem Oc.next {w W W':World}{A:Option Addr}{n c:Nat}{q:List Nd}{s:ByteArray}{box nodes:Int}{g6:Nat}{u:Gr}{X Y:Int}(h:Oc w A n c q s box nodes g6 u X Y W)(k:Below W.heap.size W W'):Oc w A n c q s box nodes g6 u X Y W':=⟨h.o.next k,(k.block _ (zad h.gk)).trans h.gk,h.r.next k⟩
theorem Oc.s {w W:World}{A:Option Addr}{n c:Nat}{q:List Nd}{s:ByteArray}{box nodes:Int}{g6:Nat}{u:Gr}{X Y:Int}(h:Oc w A n c q s box nodes g6 u X Y W) :
  W.cell? ⟨g6,0,none⟩=some (.bool u.x.s)∧W.cell? ⟨g6,1,none⟩=some (.slice u.x.a u.x.xs.length u.x.c)∧W.cell? ⟨g6,2,none⟩=some (.bool u.y.s)∧W.cell? ⟨g6,3,none⟩=some (.slice u.y.a u.y.xs.length u.y.c)∧W.cell? ⟨w.heap.size,0,none⟩=some (.string s):=by
 obtain⟨c0,c1,c2,c3,-⟩:=Gr.cells h.gk;exact⟨c0,c1,c2,c3,h.o.cells.1⟩
theorem zqi {L:List (List UInt8)}(h4:∀t∈L,t.length≤4)(hl:L.length≤100000):(ziW L).length≤600000:=by
 have h1:=(zfb h4 L.length (Nat.le_refl _)).1;unfold ziW;rw[List.length_append];show _+1≤_;omega
theorem zdX {L:List (List UInt8)}(hr:∀r∈L,r.length≤99)(hl:L.length≤99):(zbE L).length≤10000:=by
 have h1:=zfa (b:=twoR L) hr L.length (Nat.le_refl _);have h2:L.length*(99+1)≤99*100:=Nat.mul_le_mul hl (by omega);unfold zbE;rw[List.length_append];show _+1≤_;omega
theorem zfd (z:Int)(s:Bool)(xs:List Nat)(hd:Dig xs)(hl:xs.length≤60):(Digs.text s (val xs)).length≤700:=by
 have h1:=zbt hd;have h2:val xs<10^(10*xs.length+1):=Nat.lt_of_lt_of_le (Nat.lt_of_lt_of_le h1 (zeV xs.length)) (Nat.pow_le_pow_right (by decide) (by omega));have h3:=Digs.digs_length_le h2 (by omega);unfold Digs.text;split
 ·rw[List.length_cons];omega
 ·omega
theorem zbd (A:Option Addr)(c n:Nat)(s:ByteArray)(q:List Nd)(box nodes:Int)(w:World)(hs:s.size≤1000)(h:Ns w A c q)(hn:q.length=n)(hn9:n≤900000)(hm : -9223372036854775808≤box∧box≤9223372036854775807)
  (hsz:∀X Y L,mayP s q=true→GoI q n box 0 X Y L→(∀r∈L,r.length≤99)∧L.length≤99) :
  Calls Tryz.prog 37 #[.agg #[.string s,.slice A n c],.agg #[.int .i64 box,.int .i64 nodes]] w (zvA s q n box nodes w):=by
 have hcap:=h.cap;rw[hn] at hcap;have OG:=Hh (Og.start (s:=s) (box:=box) (nodes:=nodes) (n:=n) h);have HN:=Hh hn;have HS:=Hh hs;obtain⟨c0,c1,c2,c3⟩:=OG.out.cells;clear h hn;go_enter Tryz.func37,Tryz.ntmps37;go_upto_if 16 with(go_at_call 75;go_loud (refine(znz A c n s q 4 box nodes _ (by unfold maxLen;omega) OG.out.ns HN.out hn9 hm).mono ?_;rintro e w2 ⟨er,rfl,ck,b_⟩;have OG:=Hh (OG.out.next b_);have CK:=Hh ck;clear b_ ck c0 c1 c2 c3;obtain⟨c0,c1,c2,c3⟩:=OG.out.cells))
 by_cases he:er=0
 ·subst he;have HG:=Hh (zmx (zgX CK.out).1);go_upto_region 8 with(first
   | (go_at_call 76;go_loud (refine(zuf A c n q box _ OG.out.ns HN.out hn9 HG.out hm).mono ?_;rintro e w3 ⟨u,X,Y,er,rfl,ru,lu,-,b_,gi⟩;obtain rfl:=zsO (by omega) CK.out gi;have hal:=(Below.refl w3.heap.size w3).alloc (Nat.le_refl _) u.obj;have OC:=Hh (show Oc w A n c q s box nodes w3.heap.size u X Y (w3.alloc u.obj) from⟨(OG.out.next b_).next hal,heap_alloc_new w3 u.obj,ru.next hal⟩);have GI:=Hh gi;have HZZ:=Hh (hsz X Y u.L (zgX CK.out).1 gi);clear b_ ru lu gi hal c0 c1 c2 c3;obtain⟨c0,c1,c2,c3⟩:=OC.out.o.cells;obtain⟨g0,g1,g2,g3,g4⟩:=Gr.cells OC.out.gk))
   | (go_at_call 77;go_loud (refine(zqh u _ OC.out.r.t).mono ?_;rintro e w4 ⟨rfl,b_⟩;have OC:=Hh (OC.out.next b_);clear b_ c0 c1 c2 c3 g0 g1 g2 g3 g4;obtain⟨c0,c1,c2,c3⟩:=OC.out.o.cells;obtain⟨g0,g1,g2,g3,g4⟩:=Gr.cells OC.out.gk)))
  obtain⟨g6,hg6⟩:∃g,g=w3.heap.size:=⟨_,rfl⟩;rw[←hg6] at OC g0 g1 g2 g3 g4 ⊢;have hhi:=GoI.hi HG.out HN.out GI.out;have lx:=zau OC.out.r.x hhi.1.1 hhi.1.2;have ly:=zau OC.out.r.y hhi.2.1 hhi.2.2;obtain⟨tx,htx⟩:∃t:ByteArray,t=⟨(zho X).toArray⟩:=⟨_,rfl⟩;obtain⟨ty,hty⟩:∃t:ByteArray,t=⟨(zho Y).toArray⟩:=⟨_,rfl⟩;have zx:tx.size≤700:=by rw[htx,zax,←zcu OC.out.r.x];exact zfd 0 _ _ OC.out.r.x.us.1 (by omega)
  have zy:ty.size≤700:=by rw[hty,zax,←zcu OC.out.r.y];exact zfd 0 _ _ OC.out.r.y.us.1 (by omega)
  have HWD:=Hh (show zhn u.L≤99 by
   unfold zhn tat;cases hq:u.L with
   | nil=>exact Nat.zero_le _
   | cons r l=>exact HZZ.out.1 r (by rw[hq];exact List.mem_cons_self))
  obtain⟨wd,hwd⟩:∃k,k=zhn u.L:=⟨_,rfl⟩;obtain⟨hi,hhg⟩:∃k,k=u.L.length:=⟨_,rfl⟩;rw[←hwd] at HWD ⊢;rw[←hhg];have HHI:=Hh (show hi≤99 by rw[hhg];exact HZZ.out.2);obtain⟨tw,htw⟩:∃t:ByteArray,t=⟨(Digs.digs wd).toArray⟩:=⟨_,rfl⟩;obtain⟨th,hth⟩:∃t:ByteArray,t=⟨(Digs.digs hi).toArray⟩:=⟨_,rfl⟩;have zw:tw.size≤2:=by rw[htw,zax];exact zdm (by have:=HWD.out;omega)
  have zh:th.size≤2:=by rw[hth,zax];exact zdm (by have:=HHI.out;omega)
  have HTX:=Hh htx;have HTY:=Hh hty;have HTW:=Hh htw;have HTH:=Hh hth;have HWE:=Hh hwd;have HHE:=Hh hhg;have m0:(9223372036854775807<11+tx.size)=False:=eq_false (by have:=HS.out;omega);have m1:(9223372036854775807<11+tx.size+1)=False:=eq_false (by have:=HS.out;omega);have m2:(9223372036854775807<11+tx.size+1+ty.size)=False:=eq_false (by have:=HS.out;omega);have m3:(9223372036854775807<11+tx.size+1+ty.size+1)=False:=eq_false (by have:=HS.out;omega);have m4:(9223372036854775807<11+tx.size+1+ty.size+1+4)=False:=eq_false (by have:=HS.out;omega);have m5:(9223372036854775807<11+tx.size+1+ty.size+1+4+tw.size)=False:=eq_false (by have:=HS.out;omega);have m6:(9223372036854775807<11+tx.size+1+ty.size+1+4+tw.size+6)=False:=eq_false (by have:=HS.out;omega);have m7:(9223372036854775807<11+tx.size+1+ty.size+1+4+tw.size+6+th.size)=False:=eq_false (by have:=HS.out;omega);have m8:(9223372036854775807<11+tx.size+1+ty.size+1+4+tw.size+6+th.size+9)=False:=eq_false (by have:=HS.out;omega);have m9:(9223372036854775807<11+tx.size+1+ty.size+1+4+tw.size+6+th.size+9+s.size)=False:=eq_false (by have:=HS.out;omega);have m10:(9223372036854775807<11+tx.size+1+ty.size+1+4+tw.size+6+th.size+9+s.size+1)=False:=eq_false (by have:=HS.out;omega);clear hhi hg6 htx hty hwd hhg htw hth hsz c0 c1 c2 c3 g0 g1 g2 g3 g4;obtain⟨v0,hv0⟩:∃W1:World,W1=w4.drew:=⟨_,rfl⟩;have Q0:=Hh (show Oc w A n c q s box nodes g6 u X Y v0 by rw[hv0];exact OC.out.next (Below.drew' (Below.refl _ _)));refine wp_region_noPanic ?_;refine wp_region_held (S:=fun w'=>w'.cell? ⟨g6,0,none⟩=some (.bool u.x.s)∧w'.cell? ⟨g6,1,none⟩=some (.slice u.x.a u.x.xs.length u.x.c)∧w'.cell? ⟨g6,2,none⟩=some (.bool u.y.s)∧w'.cell? ⟨g6,3,none⟩=some (.slice u.y.a u.y.xs.length u.y.c)∧w'.cell? ⟨w.heap.size,0,none⟩=some (.string s)) (by kernel_rfl) ?_;change wpAnyH _ _ _ _ _ _ _ _ w4.drew;rw[←hv0];clear hv0;have hS0:=Q0.out.s;refine Tk1 (v:=?_) 0 hS0 ?_ ?_;rotate_left
  ·rintro w' ⟨_,_,_,_,_⟩;go_simp;first|done|with_reducible rfl|rfl
  simp only[Act.put,LA];refine Tk1 (v:=?_) 1 hS0 ?_ ?_;rotate_left
  ·rintro w' ⟨_,_,_,_,_⟩;go_simp;first|done|with_reducible rfl|rfl
  simp only[Act.put,LA];refine Tk1 (v:=?_) 5 hS0 ?_ ?_;rotate_left
  ·rintro w' ⟨_,_,_,_,_⟩;go_simp;first|done|with_reducible rfl|rfl
  simp only[Act.put,LA];refine Tk1 (v:=?_) 6 hS0 ?_ ?_;rotate_left
  ·rintro w' ⟨_,_,_,_,_⟩;go_simp;first|done|with_reducible rfl|rfl
  simp only[Act.put,LA];refine Tk1 (v:=?_) 11 hS0 ?_ ?_;rotate_left
  ·rintro w' ⟨_,_,_,_,_⟩;go_simp;first|done|with_reducible rfl|rfl
  simp only[Act.put,LA];refine Tk1 (v:=?_) 15 hS0 ?_ ?_;rotate_left
  ·rintro w' ⟨_,_,_,_,_⟩;go_simp;first|done|with_reducible rfl|rfl
  simp only[Act.put,LA];refine Tk1 (v:=?_) 19 hS0 ?_ ?_;rotate_left
  ·rintro w' ⟨_,_,_,_,_⟩;go_simp;first|done|with_reducible rfl|rfl
  simp only[Act.put,LA];refine Tk1 (v:=?_) 20 hS0 ?_ ?_;rotate_left
  ·rintro w' ⟨_,_,_,_,_⟩;go_simp;first|done|with_reducible rfl|rfl
  simp only[Act.put,LA];refine Rd1 2 fun K hK=>?_;go_simp;refine(zmu u.x.s u.x.a u.x.c u.x.xs _ Q0.out.r.x.us (by omega)).mono ?_;rintro e v1 ⟨rfl,b_⟩;rw[zcu Q0.out.r.x,←HTX.out];dsimp only;have Q1:=Hh (Q0.out.next b_);have hS1:=Q1.out.s;refine hK.out _ _ hS1 (fun _=>?_);clear hK K b_;refine Tk1 (v:=?_) 3 hS1 ?_ ?_;rotate_left
  ·rintro w' ⟨_,_,_,_,_⟩;go_simp;first|done|with_reducible rfl|rfl
  simp only[Act.put,LA];refine Tk1 (v:=?_) 4 hS1 ?_ ?_;rotate_left
  ·rintro w' ⟨_,_,_,_,_⟩;go_simp;first|done|with_reducible rfl|rfl
  simp only[Act.put,LA];refine Rd1 7 fun K hK=>?_;go_simp;refine(zmu u.y.s u.y.a u.y.c u.y.xs _ Q1.out.r.y.us (by omega)).mono ?_;rintro e v2 ⟨rfl,b_⟩;rw[zcu Q1.out.r.y,←HTY.out];dsimp only;have Q2:=Hh (Q1.out.next b_);have hS2:=Q2.out.s;refine hK.out _ _ hS2 (fun _=>?_);clear hK K b_;refine Tk1 (v:=?_) 8 hS2 ?_ ?_;rotate_left
  ·rintro w' ⟨_,_,_,_,_⟩;go_simp;first|done|with_reducible rfl|rfl
  simp only[Act.put,LA];refine Tk1 (v:=?_) 9 hS2 ?_ ?_;rotate_left
  ·rintro w' ⟨_,_,_,_,_⟩;go_simp;first|done|with_reducible rfl|rfl
  simp only[Act.put,LA];refine Tk1 (v:=?_) 10 hS2 ?_ ?_;rotate_left
  ·rintro w' ⟨_,_,_,_,_⟩;go_simp;first|done|with_reducible rfl|rfl
  simp only[Act.put,LA];refine Rd1 12 fun K hK=>?_;go_simp;refine(zhb wd _ (by have:=HWD.out;omega)).mono ?_;rintro e v3 ⟨rfl,rfl⟩;rw[←HTW.out];dsimp only;have Q3:=Q2;have hS3:=Q3.out.s;refine hK.out _ _ hS3 (fun _=>?_);clear hK K;refine Tk1 (v:=?_) 13 hS3 ?_ ?_;rotate_left
  ·rintro w' ⟨_,_,_,_,_⟩;go_simp;first|done|with_reducible rfl|rfl
  simp only[Act.put,LA];refine Tk1 (v:=?_) 14 hS3 ?_ ?_;rotate_left
  ·rintro w' ⟨_,_,_,_,_⟩;go_simp;first|done|with_reducible rfl|rfl
  simp only[Act.put,LA];refine Rd1 16 fun K hK=>?_;go_simp;refine(zhb hi _ (by have:=HHI.out;omega)).mono ?_;rintro e v4 ⟨rfl,rfl⟩;rw[←HTH.out];dsimp only;have Q4:=Q3;have hS4:=Q4.out.s;refine hK.out _ _ hS4 (fun _=>?_);clear hK K;refine Tk1 (v:=?_) 17 hS4 ?_ ?_;rotate_left
  ·rintro w' ⟨_,_,_,_,_⟩;go_simp;first|done|with_reducible rfl|rfl
  simp only[Act.put,LA];refine Tk1 (v:=?_) 18 hS4 ?_ ?_;rotate_left
  ·rintro w' ⟨_,_,_,_,_⟩;go_simp;first|done|with_reducible rfl|rfl
  simp only[Act.put,LA];refine Tk1 (v:=?_) 21 hS4 ?_ ?_;rotate_left
  ·rintro w' ⟨_,_,_,_,_⟩;go_simp;first|done|with_reducible rfl|rfl
  simp only[Act.put,LA];refine Tk1 (v:=?_) 22 hS4 ?_ ?_;rotate_left
  ·rintro w' ⟨_,_,_,_,_⟩;go_simp;first|done|with_reducible rfl|rfl
  simp only[Act.put,LA];refine Tk1 (v:=?_) 23 hS4 ?_ ?_;rotate_left
  ·rintro w' ⟨_,_,_,_,_⟩;go_simp;first|done|with_reducible rfl|rfl
  simp only[Act.put,LA];refine wpAnyH_done (by kernel_rfl) ?_ _;refine NoPanic.normal ?_;obtain⟨g0,g1,g2,g3,g4⟩:=Gr.cells Q4.out.gk;go_wp2_with (first
   | (go_at_call 34;go_loud (refine(zhd u _ Q4.out.r.t HZZ.out.1 HZZ.out.2).mono ?_;rintro e w5 ⟨A5,c5,n5,rfl,l5,ts5,b_⟩;have Q5:=Hh (Q4.out.next b_);have L5:=Hh l5;have T5:=Hh ts5;have hn5:n5≤10000:=(by rw[←l5];exact zdX HZZ.out.1 HZZ.out.2);have hc5:=ts5.cap;rw[l5] at hc5;clear b_ l5 ts5 g0 g1 g2 g3 g4))
   | (go_at_call 79;go_loud (refine(znJ A5 c5 n5 _ _ T5.out L5.out (by omega) (zbK HZZ.out.1 HZZ.out.2)).mono ?_;rintro e w6 ⟨rfl,b_⟩;have Q6:=Hh (Q5.out.next b_);obtain⟨tl,htl⟩:∃t:ByteArray,t=⟨(ziW (zbE u.L)).toArray⟩:=⟨_,rfl⟩;rw[←htl];have HTL:=Hh htl;have ztl:tl.size≤600000:=(by rw[htl,zax];exact zqi (zbK HZZ.out.1 HZZ.out.2) (by have:=zdX HZZ.out.1 HZZ.out.2;omega));have mz:(9223372036854775807<11+tx.size+1+ty.size+1+4+tw.size+6+th.size+9+s.size+1+tl.size)=False:=eq_false (by have:=HS.out;omega);clear htl b_)))
  go_ret2;refine⟨0,zfK s.data.toList X Y u.L,?_,⟨X,Y,u.L,.inr ⟨rfl,CK.out,GI.out⟩,.inr ⟨rfl,rfl⟩⟩,Q6.out.o.b⟩;have key:∀t:ByteArray,t.data.toList=zfK s.data.toList X Y u.L→Ending.returned (.tuple #[.string t,.int .i64 0])=Ending.returned (.tuple #[.string ⟨(zfK s.data.toList X Y u.L).toArray⟩,.int .i64 0]):=fun t ht=>by
   rw[show t=⟨(zfK s.data.toList X Y u.L).toArray⟩ from zjY ht]
  refine key _ ?_;unfold zfK;rw[←HWE.out,←HHE.out];simp[ByteArray.data_append,zul,zum,zun,zuo,HTX.out,HTY.out,HTW.out,HTH.out,HTL.out]
 ·have t1:(er != 0)=true:=by rw[bne_iff_ne];exact he
  have HE:=Hh he;clear he;go_wp2_with fail;go_ret2;exact⟨er,[],rfl,⟨0,0,[],.inl ⟨HE.out,CK.out,rfl,rfl,rfl⟩,.inl ⟨HE.out,rfl⟩⟩,OG.out.b⟩
theorem zqj {t:Tr}{n:Nat}{x y w h:Int}(hn:t.lv.toNat=n)(hc:∀X Y,zaH t X Y≠0→x≤X∧X≤x+w-1∧y≤Y∧Y≤y+h-1)
  (tw:∃Y,zaH t x Y≠0) (te:∃Y,zaH t (x+w-1) Y≠0) (tn:∃X,zaH t X y≠0) (ts:∃X,zaH t X (y+h-1)≠0):BoxT t n x y w h:=by
 have hM:∀a b,zah t a b=zaH t (a-p2 (n-1)) (b-p2 (n-1)):=fun a b=>by
  unfold zaH;rw[hn,Int.sub_add_cancel,Int.sub_add_cancel]
 have key:∀{ax e:Nat} {D:Int},(∀X Y,zaH t X Y≠0→D≤ds ax e n (X+p2 (n-1)) (Y+p2 (n-1)))→(∃X Y,zaH t X Y≠0∧D=ds ax e n (X+p2 (n-1)) (Y+p2 (n-1)))→EdS ax e n (fun u=>u=t) D:=fun h1 h2=>by
  refine⟨fun u hu a b hab=>?_,?_⟩
  ·have hu':u=t:=hu;subst hu';rw[hM] at hab;have:=h1 _ _ hab
   rwa [Int.sub_add_cancel,Int.sub_add_cancel] at this
  ·obtain⟨X,Y,k1,k2⟩:=h2;refine⟨t,X+p2 (n-1),Y+p2 (n-1),rfl,?_,k2⟩;rw[hM,Int.add_sub_cancel,Int.add_sub_cancel];exact k1
 obtain⟨Y1,a1⟩:=tw;obtain⟨Y2,a2⟩:=te;obtain⟨X3,a3⟩:=tn;obtain⟨X4,a4⟩:=ts;refine⟨key (fun X Y hX=>?_) ⟨_,_,a1,rfl⟩,key (fun X Y hX=>?_) ⟨_,_,a3,rfl⟩,key (fun X Y hX=>?_) ⟨_,_,a2,?_⟩,key (fun X Y hX=>?_) ⟨_,_,a4,?_⟩⟩
 ·have:=hc X Y hX;show x+p2 (n-1)≤X+p2 (n-1);omega
 ·have:=hc X Y hX;show y+p2 (n-1)≤Y+p2 (n-1);omega
 ·have:=hc X Y hX;show p2 n-w-(x+p2 (n-1))≤p2 n-1-(X+p2 (n-1));omega
 ·show p2 n-w-(x+p2 (n-1))=p2 n-1-(x+w-1+p2 (n-1));omega
 ·have:=hc X Y hX;show p2 n-h-(y+p2 (n-1))≤p2 n-1-(Y+p2 (n-1));omega
 ·show p2 n-h-(y+p2 (n-1))=p2 n-1-(y+h-1+p2 (n-1));omega
def zaS:List Nd:=[⟨1,0,1,0,0⟩,⟨1,0,0,1,0⟩,⟨1,1,1,0,0⟩,⟨1,1,0,0,0⟩,⟨2,1,2,3,4⟩,⟨3,0,0,0,5⟩]
def zcv:List Cl:=[⟨1,0,1⟩,⟨2,1,1⟩,⟨0,2,1⟩,⟨1,2,1⟩,⟨2,2,1⟩]
def zhT:List (List UInt8):=[[0,1,0],[0,0,1],[1,1,1]]
def zbZ:ByteArray:=⟨#[66,51,47,83,50,51]⟩
theorem zlk:zbC zcv=zcv:=by kernel_rfl
theorem zfF:zbC zcv=zlV zaS:=by kernel_rfl
theorem zhe:OfL zaS zaS.length=zaS:=by kernel_rfl
theorem zkg:zcD (zbC zcv)=3:=by kernel_rfl
theorem zfG:zac zaS=true:=by kernel_rfl
theorem zll {out:List Nd}(h:zcU (zbC zcv) out):out=zaS:=by
 have k:=zgF zfG;rw[zhe,←zfF] at k;exact zni h k fun _ _=>rfl
theorem zkh:zcU zcv zaS:=by
 have k:=zgF zfG;rw[zhe,←zfF,zlk] at k;exact k
theorem zqk (x y:Int)(h:lk zcv x y≠0):0≤x∧x≤2∧0≤y∧y≤2:=by
 unfold zcv lk lk lk lk lk lk at h;dsimp only at h;split at h
 ·omega
 ·split at h
  ·omega
  ·split at h
   ·omega
   ·split at h
    ·omega
    ·split at h
     ·omega
     ·exact absurd rfl h
theorem zfC:BxV zaS 6 true 0 0 3 3:=by
 have hd:=zkh.den;refine .inr ⟨by omega,rfl,zqj (by kernel_rfl) (fun X Y h=>?_) ⟨2,?_⟩ ⟨2,?_⟩ ⟨1,?_⟩ ⟨1,?_⟩⟩
 ·have:=zqk X Y (by rw[←hd];exact h);omega
 ·rw[show(6:Nat)=zaS.length from rfl,hd]
  decide
 ·rw[show(6:Nat)=zaS.length from rfl,hd]
  decide
 ·rw[show(6:Nat)=zaS.length from rfl,hd]
  decide
 ·rw[show(6:Nat)=zaS.length from rfl,hd]
  decide
theorem znK:zcL (picM (den zaS 6) 0 0) 3 3=zhT:=by
 have e:picM (den zaS 6) 0 0=fun r c=>lk zcv (0+c) (0+r):=by
  funext r c;exact zkh.den _ _
 rw[e];show zcL (fun r c=>lk zcv (0+c) (0+r)) 3 3=zhT;kernel_rfl
theorem go13:GoI zaS 6 3 0 0 0 zhT:=.inr ⟨by omega,true,0,0,3,3,zfC,.inr ⟨by omega,rfl,rfl,rfl,znK.symm⟩⟩
theorem zwe:WinP zaS 6 3:=⟨0,0,3,3,true,zfC,by omega,by omega⟩
theorem zvB:mayP zbZ zaS=true:=by kernel_rfl
theorem ck13:CkI 4 zbZ zaS 6 3 0 0 :=
 ⟨fun h=>by rw[zvB] at h;exact absurd h (by decide),fun _=>.inl ⟨rfl,.inr ⟨zwe,.inl rfl⟩⟩⟩
theorem gf13:GfI 4 zbZ zaS 6 3 0 0 0 0 zhT:=.inr ⟨rfl,ck13,go13⟩
def zsQ:List UInt8:=[35,67,88,82,76,69,32,80,111,115,61,48,44,48,10,120,32,61,32,51,44,32,121,32,61,32,51,44,32,114,117,108,101,32,61,32,66,51,47,83,50,51,10,98,111,36,50,98,111,36,51,111,33,10]
theorem zql:zfK zbZ.data.toList 0 0 zhT=zsQ:=by kernel_rfl
theorem fc13 {er:Int}{T:List UInt8}(h:FcI zbZ zaS 6 3 0 er T):er=0∧T=zsQ:=by
 obtain⟨e1,e2⟩:=h.one ⟨0,0,zhT,gf13,.inr ⟨rfl,rfl⟩⟩;exact⟨e1,e2.trans zql⟩
theorem zwf {er:Int}{T:List UInt8}(h:FcI zbZ zaS 6 2 0 er T):er=5:=by
 obtain⟨X,Y,L,g,-⟩:=h;have key:∀e,CkI 4 zbZ zaS 6 2 0 e→e=5:=fun e k=>by
  rcases k.2 (by rw[zvB];decide) with⟨-,h1⟩|⟨h1,-⟩
  ·rcases h1 with h1|⟨⟨X,Y,V,H,ok,b,h2,-⟩,-⟩
   ·omega
   ·rcases b with⟨h0,-⟩|⟨-,-,b⟩
    ·omega
    ·rcases zfC with⟨h0,-⟩|⟨-,-,b2⟩
     ·omega
     ·have:=b.one b2;omega
  ·exact h1
 rcases g with⟨-,g,-⟩|⟨rfl,g,-⟩
 ·exact key _ g
 ·exact key _ g
theorem zsR (box:Int)(hb:box≤80):∀X Y L,mayP zbZ zaS=true→GoI zaS 6 box 0 X Y L→(∀r∈L,r.length≤99)∧L.length≤99:=fun X Y L _ g=>by
 rcases g with⟨-,h0,-⟩|⟨-,ok,X',Y',V,H,b,h1⟩
 ·omega
 ·rcases h1 with⟨-,h0,-⟩|⟨h2,-,-,-,rfl⟩
  ·omega
  ·rw[zcX];refine⟨fun r hr=>?_,by omega⟩;obtain⟨k,-,rfl⟩:=List.mem_map.1 hr;rw[zbQ];omega
def zmF:List (List UInt8):=[[0,2,2],[0,0,0],[25,0,0]]
def zsS:List (List UInt8):=[[46],[50,66],[50,36],[112,65],[33]]
theorem zqm:zbE zmF=zsS:=by kernel_rfl
def cv13 (a b c d e f g h:Bw):List Cv:=[⟨a.s,a.a,a.c,a.xs,false,none,0,[],1⟩,⟨b.s,b.a,b.c,b.xs,c.s,c.a,c.c,c.xs,1⟩,⟨false,none,0,[],d.s,d.a,d.c,d.xs,1⟩,⟨e.s,e.a,e.c,e.xs,f.s,f.a,f.c,f.xs,1⟩,⟨g.s,g.a,g.c,g.xs,h.s,h.a,h.c,h.xs,1⟩]
structure N13 (W:World)(a b c d e f g h:Bw):Prop where
 a:a.R W 1
 b:b.R W 2
 c:c.R W 1
 d:d.R W 2
 e:e.R W 1
 f:f.R W 2
 g:g.R W 2
 h:h.R W 2
theorem zqn {W:World}{a b c d e f g h:Bw}(k:N13 W a b c d e f g h):(cv13 a b c d e f g h).map Cv.cl=zcv:=by
 show[(⟨ival a.s a.xs,ival false [],_⟩:Cl),⟨ival b.s b.xs,ival c.s c.xs,_⟩,⟨ival false [],ival d.s d.xs,_⟩,⟨ival e.s e.xs,ival f.s f.xs,_⟩,⟨ival g.s g.xs,ival h.s h.xs,_⟩]=_;rw[k.a.v,k.b.v,k.c.v,k.d.v,k.e.v,k.f.v,k.g.v,k.h.v];rfl
theorem zus {w:World}{g:Nat}(v1 v2 v3 v4 v5:Cv)(h:w.heap[g]?=some (.cells #[.bool v1.sx,.slice v1.ax v1.xs.length v1.cx,.bool v1.sy,.slice v1.ay v1.ys.length v1.cy,.int .u8 v1.st,.bool v2.sx,.slice v2.ax v2.xs.length v2.cx,.bool v2.sy,.slice v2.ay v2.ys.length v2.cy,.int .u8 v2.st,.bool v3.sx,.slice v3.ax v3.xs.length v3.cx,.bool v3.sy,.slice v3.ay v3.ys.length v3.cy,.int .u8 v3.st,.bool v4.sx,.slice v4.ax v4.xs.length v4.cx,.bool v4.sy,.slice v4.ay v4.ys.length v4.cy,.int .u8 v4.st,.bool v5.sx,.slice v5.ax v5.xs.length v5.cx,.bool v5.sy,.slice v5.ay v5.ys.length v5.cy,.int .u8 v5.st] 70))(h1:CvU w v1)(h2:CvU w v2)(h3:CvU w v3)(h4:CvU w v4)(h5:CvU w v5):Cs w (some ⟨g,0,none⟩) 5 [v1,v2,v3,v4,v5]:=by
 refine⟨fun x hx=>?_,Nat.le_refl _,by simp[maxLen],fun _=>⟨g,0,rfl,(Array.getElem?_eq_some_iff.1 h).1,fun i hi=>?_⟩⟩
 ·simp only[List.mem_cons,List.not_mem_nil,or_false] at hx;rcases hx with rfl|rfl|rfl|rfl|rfl
  ·exact h1
  ·exact h2
  ·exact h3
  ·exact h4
  ·exact h5
 ·match i,hi with
  | 0,_=>refine⟨?_,?_,?_,?_,?_⟩ <;> (rw[cell_of_row _ _ _ _ _ _ h];rfl)
  | 1,_=>refine⟨?_,?_,?_,?_,?_⟩ <;> (rw[cell_of_row _ _ _ _ _ _ h];rfl)
  | 2,_=>refine⟨?_,?_,?_,?_,?_⟩ <;> (rw[cell_of_row _ _ _ _ _ _ h];rfl)
  | 3,_=>refine⟨?_,?_,?_,?_,?_⟩ <;> (rw[cell_of_row _ _ _ _ _ _ h];rfl)
  | 4,_=>refine⟨?_,?_,?_,?_,?_⟩ <;> (rw[cell_of_row _ _ _ _ _ _ h];rfl)
theorem zvC {W:World}{a b c d e f g h:Bw}(k:N13 W a b c d e f g h):mayB (cv13 a b c d e f g h) 5=true:=by
 have hn:∀{z:Bw} {n:Int},z.R W n→0≤n∧n<8→z.xs.length≤50:=fun r hz=>zau r (zdr (by omega)).1 (zdr (by omega)).2;refine zug.2 ⟨?_,?_,?_⟩
 ·unfold zcs;rw[Bool.or_eq_false_iff];refine⟨decide_eq_false (by show ¬ ((5:Int)<5);omega),List.any_eq_false.2 fun v hv=>?_⟩;unfold vast;rw[Bool.or_eq_true,decide_eq_true_iff,decide_eq_true_iff];have l1:=hn k.a (by omega);have l2:=hn k.b (by omega);have l3:=hn k.c (by omega);have l4:=hn k.d (by omega);have l5:=hn k.e (by omega);have l6:=hn k.f (by omega);have l7:=hn k.g (by omega);have l8:=hn k.h (by omega);simp only[cv13,List.mem_cons,List.not_mem_nil,or_false] at hv;rcases hv with rfl|rfl|rfl|rfl|rfl <;> (dsimp only[List.length_nil];omega)
 ·refine List.all_eq_true.2 fun v hv=>?_;simp only[cv13,List.mem_cons,List.not_mem_nil,or_false] at hv;rcases hv with rfl|rfl|rfl|rfl|rfl <;> (unfold okC;rw[Bool.and_eq_true])
  ·exact⟨zaZ k.a.cn,rfl⟩
  ·exact⟨zaZ k.b.cn,zaZ k.c.cn⟩
  ·exact⟨rfl,zaZ k.d.cn⟩
  ·exact⟨zaZ k.e.cn,zaZ k.f.cn⟩
  ·exact⟨zaZ k.g.cn,zaZ k.h.cn⟩
 ·rw[zqn k,zkg];omega
structure P13 (w W:World)(A:Option Addr)(c:Nat)(g2:Nat):Prop where
 b:Below w.heap.size w W
 np:Ns W A c zaS
 k2:W.heap[g2]?=some (.cells #[.string zbZ,.slice A 6 c] 30)
theorem P13.next {w W W':World}{A:Option Addr}{c g2:Nat}(h:P13 w W A c g2)(k:Below W.heap.size W W'):P13 w W' A c g2 :=
 ⟨h.b.trans (k.mono h.b.size),h.np.below k,(k.block _ (zad h.k2)).trans h.k2⟩
theorem P13.cells {w W:World}{A:Option Addr}{c g2:Nat}(h:P13 w W A c g2) :
  W.cell? ⟨g2,0,none⟩=some (.string zbZ)∧W.cell? ⟨g2,1,none⟩=some (.slice A 6 c) :=
 ⟨(cell_of_row W _ 0 _ _ (0,0) h.k2).trans rfl,(cell_of_row W _ 1 _ _ (0,0) h.k2).trans rfl⟩
theorem P13.start {w w2:World}{A:Option Addr}{c:Nat}(hb:Below w.heap.size w w2)(np:Ns w2 A c zaS) :
  P13 w (w2.alloc (.cells #[.string zbZ,.slice A 6 c] 30)) A c w2.heap.size :=
 have a2:=(Below.refl w2.heap.size w2).alloc (Nat.le_refl _) (.cells #[.string zbZ,.slice A 6 c] 30)
 ⟨hb.trans (a2.mono hb.size),np.below a2,heap_alloc_new w2 _⟩
theorem zfe {W:World}{b off c:Nat}(h:Ts W (some ⟨b,off,none⟩) c zsS) :
  W.cell? ⟨b,off,none⟩=some (.string ⟨#[46]⟩)∧W.cell? ⟨b,off+1,none⟩=some (.string ⟨#[50,66]⟩)∧W.cell? ⟨b,off+2,none⟩=some (.string ⟨#[50,36]⟩)∧W.cell? ⟨b,off+3,none⟩=some (.string ⟨#[112,65]⟩)∧W.cell? ⟨b,off+4,none⟩=some (.string ⟨#[33]⟩):=by
 obtain⟨b',off',e,-,k⟩:=h.at_ (by decide)
 cases e;exact⟨k 0 (by decide),k 1 (by decide),k 2 (by decide),k 3 (by decide),k 4 (by decide)⟩
theorem zaD (w:World):Calls Tryz.prog 28 #[] w fun e w'=>e=.returned (.bool true)∧Below w.heap.size w w':=by
 have q0:True:=trivial;go_enter Tryz.func28,Tryz.ntmps28;rw[show(⟨#[66,51,47,83,50,51]⟩:ByteArray)=zbZ from rfl];go_wp2_with (first
  | (have _t:=q0;go_at_call 41;clear _t;go_loud (refine(zaQ 1 _ (by omega) (by omega)).mono ?_;rintro e_ w1 h_;obtain⟨a,rfl,r_,b_⟩:=zag h_;have hca:=r_.us.cap;have la:=zau r_ (zdr (by omega)).1 (zdr (by omega)).2;have Ra:=Hh r_;have B:=Hh b_;clear h_ r_ b_;have q1:=q0;clear q0))
  | (have _t:=q1;go_at_call 41;clear _t;go_loud (refine(zaQ 2 _ (by omega) (by omega)).mono ?_;rintro e_ w2 h_;obtain⟨b,rfl,r_,b_⟩:=zag h_;have hcb:=r_.us.cap;have lb:=zau r_ (zdr (by omega)).1 (zdr (by omega)).2;have Ra:=Hh (Ra.out.next b_);have Rb:=Hh r_;have B:=Hh (B.out.trans (b_.mono B.out.size));clear h_ r_ b_;have q2:=q1;clear q1))
  | (have _t:=q2;go_at_call 41;clear _t;go_loud (refine(zaQ 1 _ (by omega) (by omega)).mono ?_;rintro e_ w3 h_;obtain⟨c,rfl,r_,b_⟩:=zag h_;have hcc:=r_.us.cap;have lc:=zau r_ (zdr (by omega)).1 (zdr (by omega)).2;have Ra:=Hh (Ra.out.next b_);have Rb:=Hh (Rb.out.next b_);have Rc:=Hh r_;have B:=Hh (B.out.trans (b_.mono B.out.size));clear h_ r_ b_;have q3:=q2;clear q2))
  | (have _t:=q3;go_at_call 41;clear _t;go_loud (refine(zaQ 2 _ (by omega) (by omega)).mono ?_;rintro e_ w4 h_;obtain⟨d,rfl,r_,b_⟩:=zag h_;have hcd:=r_.us.cap;have ld:=zau r_ (zdr (by omega)).1 (zdr (by omega)).2;have Ra:=Hh (Ra.out.next b_);have Rb:=Hh (Rb.out.next b_);have Rc:=Hh (Rc.out.next b_);have Rd:=Hh r_;have B:=Hh (B.out.trans (b_.mono B.out.size));clear h_ r_ b_;have q4:=q3;clear q3))
  | (have _t:=q4;go_at_call 41;clear _t;go_loud (refine(zaQ 1 _ (by omega) (by omega)).mono ?_;rintro e_ w5 h_;obtain⟨e,rfl,r_,b_⟩:=zag h_;have hce:=r_.us.cap;have le:=zau r_ (zdr (by omega)).1 (zdr (by omega)).2;have Ra:=Hh (Ra.out.next b_);have Rb:=Hh (Rb.out.next b_);have Rc:=Hh (Rc.out.next b_);have Rd:=Hh (Rd.out.next b_);have Re:=Hh r_;have B:=Hh (B.out.trans (b_.mono B.out.size));clear h_ r_ b_;have q5:=q4;clear q4))
  | (have _t:=q5;go_at_call 41;clear _t;go_loud (refine(zaQ 2 _ (by omega) (by omega)).mono ?_;rintro e_ w6 h_;obtain⟨f,rfl,r_,b_⟩:=zag h_;have hcf:=r_.us.cap;have lf:=zau r_ (zdr (by omega)).1 (zdr (by omega)).2;have Ra:=Hh (Ra.out.next b_);have Rb:=Hh (Rb.out.next b_);have Rc:=Hh (Rc.out.next b_);have Rd:=Hh (Rd.out.next b_);have Re:=Hh (Re.out.next b_);have Rf:=Hh r_;have B:=Hh (B.out.trans (b_.mono B.out.size));clear h_ r_ b_;have q6:=q5;clear q5))
  | (have _t:=q6;go_at_call 41;clear _t;go_loud (refine(zaQ 2 _ (by omega) (by omega)).mono ?_;rintro e_ w7 h_;obtain⟨g,rfl,r_,b_⟩:=zag h_;have hcg:=r_.us.cap;have lg:=zau r_ (zdr (by omega)).1 (zdr (by omega)).2;have Ra:=Hh (Ra.out.next b_);have Rb:=Hh (Rb.out.next b_);have Rc:=Hh (Rc.out.next b_);have Rd:=Hh (Rd.out.next b_);have Re:=Hh (Re.out.next b_);have Rf:=Hh (Rf.out.next b_);have Rg:=Hh r_;have B:=Hh (B.out.trans (b_.mono B.out.size));clear h_ r_ b_;have q7:=q6;clear q6))
  | (have _t:=q7;go_at_call 41;clear _t;go_loud (refine(zaQ 2 _ (by omega) (by omega)).mono ?_;rintro e_ w8 h_;obtain⟨h,rfl,r_,b_⟩:=zag h_;have hch:=r_.us.cap;have lh:=zau r_ (zdr (by omega)).1 (zdr (by omega)).2;have Ra:=Hh (Ra.out.next b_);have Rb:=Hh (Rb.out.next b_);have Rc:=Hh (Rc.out.next b_);have Rd:=Hh (Rd.out.next b_);have Re:=Hh (Re.out.next b_);have Rf:=Hh (Rf.out.next b_);have Rg:=Hh (Rg.out.next b_);have Rh:=Hh r_;have B:=Hh (B.out.trans (b_.mono B.out.size));clear h_ r_ b_;have q8:=q7;clear q7))
  | (have _t:=q8;go_at_call 12;clear _t;go_loud (have hal:=(Below.refl w8.heap.size w8).alloc (Nat.le_refl _) (.cells #[.bool a.s,.slice a.a a.xs.length a.c,.bool false,.slice none 0 0,.int .u8 1,.bool b.s,.slice b.a b.xs.length b.c,.bool c.s,.slice c.a c.xs.length c.c,.int .u8 1,.bool false,.slice none 0 0,.bool d.s,.slice d.a d.xs.length d.c,.int .u8 1,.bool e.s,.slice e.a e.xs.length e.c,.bool f.s,.slice f.a f.xs.length f.c,.int .u8 1,.bool g.s,.slice g.a g.xs.length g.c,.bool h.s,.slice h.a h.xs.length h.c,.int .u8 1] 70);have NN:=Hh (show N13 w8 a b c d e f g h from⟨Ra.out,Rb.out,Rc.out,Rd.out,Re.out,Rf.out,Rg.out,Rh.out⟩);refine(zsd (some ⟨w8.heap.size,0,none⟩) 5 5 5 zbZ (cv13 a b c d e f g h) _ (by decide) (zus _ _ _ _ _ (heap_alloc_new w8 _) ⟨Ra.out.us.below hal,Us.nil _,by show 1≤255;omega⟩ ⟨Rb.out.us.below hal,Rc.out.us.below hal,by show 1≤255;omega⟩ ⟨Us.nil _,Rd.out.us.below hal,by show 1≤255;omega⟩ ⟨Re.out.us.below hal,Rf.out.us.below hal,by show 1≤255;omega⟩ ⟨Rg.out.us.below hal,Rh.out.us.below hal,by show 1≤255;omega⟩) rfl (by omega)).mono ?_;rintro e_ w9 ⟨A5,c5v,qn,q,ok,rfl,l5,n5,a5,b5,hok,-,hqo⟩;rw[zvC NN.out] at hok;subst hok;have e5:q=zaS:=zll (by have:=hqo rfl;rwa [zqn NN.out] at this);subst e5;have e6:qn=6:=l5.symm;subst e6;have hc5:=n5.cap;have N5:=Hh n5;have B2:=Hh (B.out.trans ((hal.trans (b5.mono hal.size)).mono B.out.size));clear l5 n5 a5 b5 hqo hal NN;have q9:=q8;clear q8))
  | (have _t:=q9;go_at_call 37;clear _t;go_loud (have PP:=Hh (P13.start B2.out N5.out);obtain⟨c0,c1⟩:=PP.out.cells;refine(zbd A5 c5v 6 zbZ zaS 3 0 _ (by decide) PP.out.np rfl (by omega) (by omega) (zsR 3 (by omega))).mono ?_;rintro e_ w10 ⟨er,T,rfl,h_,b_⟩;obtain⟨rfl,rfl⟩:=fc13 h_;clear h_;have PP:=Hh (PP.out.next b_);clear c0 c1 b_;obtain⟨c0,c1⟩:=PP.out.cells;have q10:=q9;clear q9))
  | (have _t:=q10;go_at_call 37;clear _t;go_loud (refine(zbd A5 c5v 6 zbZ zaS 2 0 _ (by decide) PP.out.np rfl (by omega) (by omega) (zsR 2 (by omega))).mono ?_;rintro e_ w11 ⟨er,T,rfl,h_,b_⟩;have e7:=zwf h_;subst e7;clear h_;have PP:=Hh (PP.out.next b_);clear c0 c1 b_;obtain⟨c0,c1⟩:=PP.out.cells;have q11:=q10;clear q10))
  | (have _t:=q11;go_at_call 34;clear _t;go_loud (have hal:=(Below.refl w11.heap.size w11).alloc (Nat.le_refl _) (.cells #[.string ⟨#[0,2,2]⟩,.string ⟨#[0,0,0]⟩,.string ⟨#[25,0,0]⟩] 9);have PP:=Hh (PP.out.next ((Below.refl w11.heap.size w11).alloc (Nat.le_refl _) (.cells #[.string ⟨#[0,2,2]⟩,.string ⟨#[0,0,0]⟩,.string ⟨#[25,0,0]⟩] 9)));refine(zhd ⟨bw0,bw0,some ⟨w11.heap.size,0,none⟩,3,zmF⟩ _ (zvu (heap_alloc_new w11 (.cells #[.string ⟨#[0,2,2]⟩,.string ⟨#[0,0,0]⟩,.string ⟨#[25,0,0]⟩] 9)) (show ∀r∈zmF,r.length≤maxLen from by decide) (show 3≤maxLen from by decide)) (show ∀r∈zmF,r.length≤99 from by decide) (show 3≤99 from by decide)).mono ?_;rintro e_ w12 ⟨At,ct,nt,rfl,ln_,t_,b_⟩;rw[zqm] at ln_ t_;have e8:nt=5:=ln_.symm;subst e8;have hct:=t_.cap;obtain⟨tb,toff,rfl,-,hat⟩:=t_.at_ (by decide);have PP:=Hh (PP.out.next b_);clear c0 c1 b_ hal ln_;have TT:=Hh t_;clear t_;obtain⟨k0,k1,k2,k3,k4⟩:=zfe TT.out;clear hat;have q12:=q11;clear q11))
  | (have _t:=q12;go_at_call 31;clear _t;go_loud (refine(zfc false 255 _ (by omega)).mono ?_;rintro e_ w13 ⟨rfl,b_⟩;have PP:=Hh (PP.out.next b_);have TT:=Hh (TT.out.below b_);clear k0 k1 k2 k3 k4 b_;obtain⟨k0,k1,k2,k3,k4⟩:=zfe TT.out;have q13:=q12;clear q12))
  | (have _t:=q13;go_at_call 31;clear _t;go_loud (refine(zfc true 48 _ (by omega)).mono ?_;rintro e_ w14 ⟨rfl,b_⟩;have PP:=Hh (PP.out.next b_);have TT:=Hh (TT.out.below b_);clear k0 k1 k2 k3 k4 b_;obtain⟨k0,k1,k2,k3,k4⟩:=zfe TT.out;have q14:=q13;clear q13))
  | (have _t:=q14;go_at_call 31;clear _t;go_loud (refine(zfc true 1 _ (by omega)).mono ?_;rintro e_ w15 ⟨rfl,b_⟩;have PP:=Hh (PP.out.next b_);have TT:=Hh (TT.out.below b_);clear k0 k1 k2 k3 k4 b_;obtain⟨k0,k1,k2,k3,k4⟩:=zfe TT.out;have q15:=q14;clear q14)))
 go_ret;exact⟨rfl,PP.out.b⟩
theorem zki (s t:ByteArray):(s++t).data.toList=s.data.toList++t.data.toList:=by simp[ByteArray.data_append]
end Go.Proofs.YtcippfaljoagaaaGreatDoor
