import Derived.Test.YtfjajpnfjjdnpaaGreatDoorWRuL

set_option linter.unusedVariables false
set_option linter.unusedSimpArgs false
set_option maxRecDepth 100000
set_option maxHeartbeats 6400000
namespace Go.Proofs.YtfjajpnfjjdnpaaGreatDoor
open Go.RowKit Num Nds Txt
def FcI (s:ByteArray)(q:List Nd)(n:Nat)(box nodes er:Int)(T:List UInt8):Prop :=
 ∃(X Y:Int) (L:List (List UInt8)),GfI 4 s q n box nodes er X Y L∧((er≠0∧T=[])∨(er=0∧T=zcR s.data.toList X Y L))
theorem FcI.one {s:ByteArray}{q:List Nd}{n:Nat}{box nodes er er':Int}{T T':List UInt8}(h:FcI s q n box nodes er T)(k:FcI s q n box nodes er' T'):er=er'∧T=T':=by
 obtain⟨X,Y,L,g,h1⟩:=h;obtain⟨X',Y',L',g',k1⟩:=k;obtain⟨rfl,rfl,rfl,rfl⟩:=g.one g';refine⟨rfl,?_⟩;rcases h1 with⟨h0,rfl⟩|⟨h0,rfl⟩
 ·rcases k1 with⟨-,rfl⟩|⟨k0,-⟩
  ·rfl
  ·exact absurd k0 h0
 ·rcases k1 with⟨k0,-⟩|⟨-,rfl⟩
  ·exact absurd h0 k0
  ·rfl
def zwy (s:ByteArray)(q:List Nd)(n:Nat)(box nodes:Int)(w:World)(e:Ending)(w':World):Prop :=
 ∃er T,e=.returned (.tuple #[.string ⟨List.toArray T⟩,.int .i64 er])∧FcI s q n box nodes er T∧Below w.heap.size w w'
structure Oc (w:World)(A:Option Addr)(n c:Nat)(q:List Nd)(s:ByteArray)(box nodes:Int)(g6:Nat)(u:Gr)(X Y:Int)(W:World):Prop where
 o:Og w A n c q s box nodes W
 gk:W.heap[g6]?=some u.obj
 r:u.R W X Y
theorem Oc.next {w W W':World}{A:Option Addr}{n c:Nat}{q:List Nd}{s:ByteArray}{box nodes:Int}{g6:Nat}{u:Gr}{X Y:Int}(h:Oc w A n c q s box nodes g6 u X Y W)(k:Below W.heap.size W W'):Oc w A n c q s box nodes g6 u X Y W':=⟨h.o.next k,(k.block _ (zag h.gk)).trans h.gk,h.r.next k⟩
theorem Oc.s {w W:World}{A:Option Addr}{n c:Nat}{q:List Nd}{s:ByteArray}{box nodes:Int}{g6:Nat}{u:Gr}{X Y:Int}(h:Oc w A n c q s box nodes g6 u X Y W) :
  W.cell? ⟨g6,0,none⟩=some (.bool u.x.s)∧W.cell? ⟨g6,1,none⟩=some (.slice u.x.a u.x.xs.length u.x.c)∧W.cell? ⟨g6,2,none⟩=some (.bool u.y.s)∧W.cell? ⟨g6,3,none⟩=some (.slice u.y.a u.y.xs.length u.y.c)∧W.cell? ⟨w.heap.size,0,none⟩=some (.string s):=by
 obtain⟨c0,c1,c2,c3,-⟩:=Gr.cells h.gk;exact⟨c0,c1,c2,c3,h.o.cells.1⟩
theorem zqQ {L:List (List UInt8)}(h4:∀t∈L,t.length≤4)(hl:L.length≤100000):(zhv L).length≤600000:=by
 have h1:=(zhd h4 L.length (Nat.le_refl _)).1;unfold zhv;rw[List.length_append];show _+1≤_;omega
theorem zfo {L:List (List UInt8)}(hr:∀r∈L,r.length≤99)(hl:L.length≤99):(zas L).length≤10000:=by
 have h1:=zgd (b:=twoR L) hr L.length (Nat.le_refl _);have h2:L.length*(99+1)≤99*100:=Nat.mul_le_mul hl (by omega);unfold zas;rw[List.length_append];show _+1≤_;omega
theorem zkf (z:Int)(s:Bool)(xs:List Nat)(hd:Dig xs)(hl:xs.length≤60):(Digs.text s (val xs)).length≤700:=by
 have h1:=zbz hd;have h2:val xs<10^(10*xs.length+1):=Nat.lt_of_lt_of_le (Nat.lt_of_lt_of_le h1 (zgX xs.length)) (Nat.pow_le_pow_right (by decide) (by omega));have h3:=Digs.digs_length_le h2 (by omega);unfold Digs.text;split
 ·rw[List.length_cons];omega
 ·omega
theorem zdJ (A:Option Addr)(c n:Nat)(s:ByteArray)(q:List Nd)(box nodes:Int)(w:World)(hs:s.size≤1000)(h:Ns w A c q)(hn:q.length=n)(hn9:n≤900000)(hm : -9223372036854775808≤box∧box≤9223372036854775807)
  (hsz:∀X Y L,mayP s q=true→GoI q n box 0 X Y L→(∀r∈L,r.length≤99)∧L.length≤99) :
  Calls Tryz.prog 30 #[.agg #[.string s,.slice A n c],.agg #[.int .i64 box,.int .i64 nodes]] w (zwy s q n box nodes w):=by
 have hcap:=h.cap;rw[hn] at hcap;have OG:=Hh (Og.start (s:=s) (box:=box) (nodes:=nodes) (n:=n) h);have HN:=Hh hn;have HS:=Hh hs;obtain⟨c0,c1,c2,c3⟩:=OG.out.cells;clear h hn;go_enter Tryz.func30,Tryz.ntmps30;go_upto_if 16 with(go_at_call 72;go_loud (refine(znN A c n s q 4 box nodes _ (by unfold maxLen;omega) OG.out.ns HN.out hn9 hm).mono ?_;rintro e w2 ⟨er,rfl,ck,b_⟩;have OG:=Hh (OG.out.next b_);have CK:=Hh ck;clear b_ ck c0 c1 c2 c3;obtain⟨c0,c1,c2,c3⟩:=OG.out.cells))
 by_cases he:er=0
 ·subst he;have HG:=Hh (zsH (zlj CK.out).1);go_upto_region 8 with(first
   | (go_at_call 73;go_loud (refine(zuB A c n q box _ OG.out.ns HN.out hn9 HG.out hm).mono ?_;rintro e w3 ⟨u,X,Y,er,rfl,ru,lu,-,b_,gi⟩;obtain rfl:=zvN (by omega) CK.out gi;have hal:=(Below.refl w3.heap.size w3).alloc (Nat.le_refl _) u.obj;have OC:=Hh (show Oc w A n c q s box nodes w3.heap.size u X Y (w3.alloc u.obj) from⟨(OG.out.next b_).next hal,heap_alloc_new w3 u.obj,ru.next hal⟩);have GI:=Hh gi;have HZZ:=Hh (hsz X Y u.L (zlj CK.out).1 gi);clear b_ ru lu gi hal c0 c1 c2 c3;obtain⟨c0,c1,c2,c3⟩:=OC.out.o.cells;obtain⟨g0,g1,g2,g3,g4⟩:=Gr.cells OC.out.gk))
   | (go_at_call 74;go_loud (refine(zqP u _ OC.out.r.t).mono ?_;rintro e w4 ⟨rfl,b_⟩;have OC:=Hh (OC.out.next b_);clear b_ c0 c1 c2 c3 g0 g1 g2 g3 g4;obtain⟨c0,c1,c2,c3⟩:=OC.out.o.cells;obtain⟨g0,g1,g2,g3,g4⟩:=Gr.cells OC.out.gk)))
  obtain⟨g6,hg6⟩:∃g,g=w3.heap.size:=⟨_,rfl⟩;rw[←hg6] at OC g0 g1 g2 g3 g4 ⊢;have hhi:=GoI.hi HG.out HN.out GI.out;have lx:=zaY OC.out.r.x hhi.1.1 hhi.1.2;have ly:=zaY OC.out.r.y hhi.2.1 hhi.2.2;obtain⟨tx,htx⟩:∃t:ByteArray,t=⟨(zdM X).toArray⟩:=⟨_,rfl⟩;obtain⟨ty,hty⟩:∃t:ByteArray,t=⟨(zdM Y).toArray⟩:=⟨_,rfl⟩;have zx:tx.size≤700:=by rw[htx,zbp,←zjh OC.out.r.x];exact zkf 0 _ _ OC.out.r.x.us.1 (by omega)
  have zy:ty.size≤700:=by rw[hty,zbp,←zjh OC.out.r.y];exact zkf 0 _ _ OC.out.r.y.us.1 (by omega)
  have HWD:=Hh (show zcp u.L≤99 by
   unfold zcp tat;cases hq:u.L with
   | nil=>exact Nat.zero_le _
   | cons r l=>exact HZZ.out.1 r (by rw[hq];exact List.mem_cons_self))
  obtain⟨wd,hwd⟩:∃k,k=zcp u.L:=⟨_,rfl⟩;obtain⟨hi,hhg⟩:∃k,k=u.L.length:=⟨_,rfl⟩;rw[←hwd] at HWD ⊢;rw[←hhg];have HHI:=Hh (show hi≤99 by rw[hhg];exact HZZ.out.2);obtain⟨tw,htw⟩:∃t:ByteArray,t=⟨(Digs.digs wd).toArray⟩:=⟨_,rfl⟩;obtain⟨th,hth⟩:∃t:ByteArray,t=⟨(Digs.digs hi).toArray⟩:=⟨_,rfl⟩;have zw:tw.size≤2:=by rw[htw,zbp];exact zdI (by have:=HWD.out;omega)
  have zh:th.size≤2:=by rw[hth,zbp];exact zdI (by have:=HHI.out;omega)
  have HTX:=Hh htx;have HTY:=Hh hty;have HTW:=Hh htw;have HTH:=Hh hth;have HWE:=Hh hwd;have HHE:=Hh hhg;have m0:(9223372036854775807<11+tx.size)=False:=eq_false (by have:=HS.out;omega);have m1:(9223372036854775807<11+tx.size+1)=False:=eq_false (by have:=HS.out;omega);have m2:(9223372036854775807<11+tx.size+1+ty.size)=False:=eq_false (by have:=HS.out;omega);have m3:(9223372036854775807<11+tx.size+1+ty.size+1)=False:=eq_false (by have:=HS.out;omega);have m4:(9223372036854775807<11+tx.size+1+ty.size+1+4)=False:=eq_false (by have:=HS.out;omega);have m5:(9223372036854775807<11+tx.size+1+ty.size+1+4+tw.size)=False:=eq_false (by have:=HS.out;omega);have m6:(9223372036854775807<11+tx.size+1+ty.size+1+4+tw.size+6)=False:=eq_false (by have:=HS.out;omega);have m7:(9223372036854775807<11+tx.size+1+ty.size+1+4+tw.size+6+th.size)=False:=eq_false (by have:=HS.out;omega);have m8:(9223372036854775807<11+tx.size+1+ty.size+1+4+tw.size+6+th.size+9)=False:=eq_false (by have:=HS.out;omega);have m9:(9223372036854775807<11+tx.size+1+ty.size+1+4+tw.size+6+th.size+9+s.size)=False:=eq_false (by have:=HS.out;omega);have m10:(9223372036854775807<11+tx.size+1+ty.size+1+4+tw.size+6+th.size+9+s.size+1)=False:=eq_false (by have:=HS.out;omega);clear hhi hg6 htx hty hwd hhg htw hth hsz c0 c1 c2 c3 g0 g1 g2 g3 g4;obtain⟨v0,hv0⟩:∃W1:World,W1=w4.drew:=⟨_,rfl⟩;have Q0:=Hh (show Oc w A n c q s box nodes g6 u X Y v0 by rw[hv0];exact OC.out.next (Below.drew' (Below.refl _ _)));refine wp_region_noPanic ?_;refine wp_region_held (S:=fun w'=>w'.cell? ⟨g6,0,none⟩=some (.bool u.x.s)∧w'.cell? ⟨g6,1,none⟩=some (.slice u.x.a u.x.xs.length u.x.c)∧w'.cell? ⟨g6,2,none⟩=some (.bool u.y.s)∧w'.cell? ⟨g6,3,none⟩=some (.slice u.y.a u.y.xs.length u.y.c)∧w'.cell? ⟨w.heap.size,0,none⟩=some (.string s)) (by kernel_rfl) ?_;change wpAnyH _ _ _ _ _ _ _ _ w4.drew;rw[←hv0];clear hv0;have hS0:=Q0.out.s;refine Tk1 (v:=?_) 0 hS0 ?_ ?_;rotate_left
  ·rintro w' ⟨_,_,_,_,_⟩;go_simp;first|done|with_reducible rfl|rfl
  simp only[Act.put,LA];refine Tk1 (v:=?_) 1 hS0 ?_ ?_;rotate_left
  ·rintro w' ⟨_,_,_,_,_⟩;go_simp;first|done|with_reducible rfl|rfl
  simp only[Act.put,LA];refine Tk1 (v:=?_) 5 hS0 ?_ ?_;rotate_left
  ·rintro w' ⟨_,_,_,_,_⟩;go_simp;first|done|with_reducible rfl|rfl
  simp only[Act.put,LA];refine Tk1 (v:=?_) 6 hS0 ?_ ?_;rotate_left
  ·rintro w' ⟨_,_,_,_,_⟩;go_simp;first|done|with_reducible rfl|rfl
  simp only[Act.put,LA];refine Tk1 (v:=?_) 11 hS0 ?_ ?_;rotate_left
  ·rintro w' ⟨_,_,_,_,_⟩;go_simp;first|done|with_reducible rfl|rfl
  simp only[Act.put,LA];refine Tk1 (v:=?_) 15 hS0 ?_ ?_;rotate_left
  ·rintro w' ⟨_,_,_,_,_⟩;go_simp;first|done|with_reducible rfl|rfl
  simp only[Act.put,LA];refine Tk1 (v:=?_) 19 hS0 ?_ ?_;rotate_left
  ·rintro w' ⟨_,_,_,_,_⟩;go_simp;first|done|with_reducible rfl|rfl
  simp only[Act.put,LA];refine Tk1 (v:=?_) 20 hS0 ?_ ?_;rotate_left
  ·rintro w' ⟨_,_,_,_,_⟩;go_simp;first|done|with_reducible rfl|rfl
  simp only[Act.put,LA];refine Rd1 2 fun K hK=>?_;go_simp;refine(zmD u.x.s u.x.a u.x.c u.x.xs _ Q0.out.r.x.us (by omega)).mono ?_;rintro e v1 ⟨rfl,b_⟩;rw[zjh Q0.out.r.x,←HTX.out];dsimp only;have Q1:=Hh (Q0.out.next b_);have hS1:=Q1.out.s;refine hK.out _ _ hS1 (fun _=>?_);clear hK K b_;refine Tk1 (v:=?_) 3 hS1 ?_ ?_;rotate_left
  ·rintro w' ⟨_,_,_,_,_⟩;go_simp;first|done|with_reducible rfl|rfl
  simp only[Act.put,LA];refine Tk1 (v:=?_) 4 hS1 ?_ ?_;rotate_left
  ·rintro w' ⟨_,_,_,_,_⟩;go_simp;first|done|with_reducible rfl|rfl
  simp only[Act.put,LA];refine Rd1 7 fun K hK=>?_;go_simp;refine(zmD u.y.s u.y.a u.y.c u.y.xs _ Q1.out.r.y.us (by omega)).mono ?_;rintro e v2 ⟨rfl,b_⟩;rw[zjh Q1.out.r.y,←HTY.out];dsimp only;have Q2:=Hh (Q1.out.next b_);have hS2:=Q2.out.s;refine hK.out _ _ hS2 (fun _=>?_);clear hK K b_;refine Tk1 (v:=?_) 8 hS2 ?_ ?_;rotate_left
  ·rintro w' ⟨_,_,_,_,_⟩;go_simp;first|done|with_reducible rfl|rfl
  simp only[Act.put,LA];refine Tk1 (v:=?_) 9 hS2 ?_ ?_;rotate_left
  ·rintro w' ⟨_,_,_,_,_⟩;go_simp;first|done|with_reducible rfl|rfl
  simp only[Act.put,LA];refine Tk1 (v:=?_) 10 hS2 ?_ ?_;rotate_left
  ·rintro w' ⟨_,_,_,_,_⟩;go_simp;first|done|with_reducible rfl|rfl
  simp only[Act.put,LA];refine Rd1 12 fun K hK=>?_;go_simp;refine(zhe wd _ (by have:=HWD.out;omega)).mono ?_;rintro e v3 ⟨rfl,rfl⟩;rw[←HTW.out];dsimp only;have Q3:=Q2;have hS3:=Q3.out.s;refine hK.out _ _ hS3 (fun _=>?_);clear hK K;refine Tk1 (v:=?_) 13 hS3 ?_ ?_;rotate_left
  ·rintro w' ⟨_,_,_,_,_⟩;go_simp;first|done|with_reducible rfl|rfl
  simp only[Act.put,LA];refine Tk1 (v:=?_) 14 hS3 ?_ ?_;rotate_left
  ·rintro w' ⟨_,_,_,_,_⟩;go_simp;first|done|with_reducible rfl|rfl
  simp only[Act.put,LA];refine Rd1 16 fun K hK=>?_;go_simp;refine(zhe hi _ (by have:=HHI.out;omega)).mono ?_;rintro e v4 ⟨rfl,rfl⟩;rw[←HTH.out];dsimp only;have Q4:=Q3;have hS4:=Q4.out.s;refine hK.out _ _ hS4 (fun _=>?_);clear hK K;refine Tk1 (v:=?_) 17 hS4 ?_ ?_;rotate_left
  ·rintro w' ⟨_,_,_,_,_⟩;go_simp;first|done|with_reducible rfl|rfl
  simp only[Act.put,LA];refine Tk1 (v:=?_) 18 hS4 ?_ ?_;rotate_left
  ·rintro w' ⟨_,_,_,_,_⟩;go_simp;first|done|with_reducible rfl|rfl
  simp only[Act.put,LA];refine Tk1 (v:=?_) 21 hS4 ?_ ?_;rotate_left
  ·rintro w' ⟨_,_,_,_,_⟩;go_simp;first|done|with_reducible rfl|rfl
  simp only[Act.put,LA];refine Tk1 (v:=?_) 22 hS4 ?_ ?_;rotate_left
  ·rintro w' ⟨_,_,_,_,_⟩;go_simp;first|done|with_reducible rfl|rfl
  simp only[Act.put,LA];refine Tk1 (v:=?_) 23 hS4 ?_ ?_;rotate_left
  ·rintro w' ⟨_,_,_,_,_⟩;go_simp;first|done|with_reducible rfl|rfl
  simp only[Act.put,LA];refine wpAnyH_done (by kernel_rfl) ?_ _;refine NoPanic.normal ?_;obtain⟨g0,g1,g2,g3,g4⟩:=Gr.cells Q4.out.gk;go_wp2_with (first
   | (go_at_call 33;go_loud (refine(zhg u _ Q4.out.r.t HZZ.out.1 HZZ.out.2).mono ?_;rintro e w5 ⟨A5,c5,n5,rfl,l5,ts5,b_⟩;have Q5:=Hh (Q4.out.next b_);have L5:=Hh l5;have T5:=Hh ts5;have hn5:n5≤10000:=(by rw[←l5];exact zfo HZZ.out.1 HZZ.out.2);have hc5:=ts5.cap;rw[l5] at hc5;clear b_ l5 ts5 g0 g1 g2 g3 g4))
   | (go_at_call 76;go_loud (refine(znV A5 c5 n5 _ _ T5.out L5.out (by omega) (zcS HZZ.out.1 HZZ.out.2)).mono ?_;rintro e w6 ⟨rfl,b_⟩;have Q6:=Hh (Q5.out.next b_);obtain⟨tl,htl⟩:∃t:ByteArray,t=⟨(zhv (zas u.L)).toArray⟩:=⟨_,rfl⟩;rw[←htl];have HTL:=Hh htl;have ztl:tl.size≤600000:=(by rw[htl,zbp];exact zqQ (zcS HZZ.out.1 HZZ.out.2) (by have:=zfo HZZ.out.1 HZZ.out.2;omega));have mz:(9223372036854775807<11+tx.size+1+ty.size+1+4+tw.size+6+th.size+9+s.size+1+tl.size)=False:=eq_false (by have:=HS.out;omega);clear htl b_)))
  go_ret2;refine⟨0,zcR s.data.toList X Y u.L,?_,⟨X,Y,u.L,.inr ⟨rfl,CK.out,GI.out⟩,.inr ⟨rfl,rfl⟩⟩,Q6.out.o.b⟩;have key:∀t:ByteArray,t.data.toList=zcR s.data.toList X Y u.L→Ending.returned (.tuple #[.string t,.int .i64 0])=Ending.returned (.tuple #[.string ⟨(zcR s.data.toList X Y u.L).toArray⟩,.int .i64 0]):=fun t ht=>by
   rw[show t=⟨(zcR s.data.toList X Y u.L).toArray⟩ from zqC ht]
  refine key _ ?_;unfold zcR;rw[←HWE.out,←HHE.out];simp[ByteArray.data_append,zqH,zqI,zqJ,zqK,HTX.out,HTY.out,HTW.out,HTH.out,HTL.out]
 ·have t1:(er != 0)=true:=by rw[bne_iff_ne];exact he
  have HE:=Hh he;clear he;go_wp2_with fail;go_ret2;exact⟨er,[],rfl,⟨0,0,[],.inl ⟨HE.out,CK.out,rfl,rfl,rfl⟩,.inl ⟨HE.out,rfl⟩⟩,OG.out.b⟩
theorem zqR {t:Tr}{n:Nat}{x y w h:Int}(hn:t.lv.toNat=n)(hc:∀X Y,zaz t X Y≠0→x≤X∧X≤x+w-1∧y≤Y∧Y≤y+h-1)
  (tw:∃Y,zaz t x Y≠0) (te:∃Y,zaz t (x+w-1) Y≠0) (tn:∃X,zaz t X y≠0) (ts:∃X,zaz t X (y+h-1)≠0):BoxT t n x y w h:=by
 have hM:∀a b,zae t a b=zaz t (a-p2 (n-1)) (b-p2 (n-1)):=fun a b=>by
  unfold zaz;rw[hn,Int.sub_add_cancel,Int.sub_add_cancel]
 have key:∀{ax e:Nat} {D:Int},(∀X Y,zaz t X Y≠0→D≤ds ax e n (X+p2 (n-1)) (Y+p2 (n-1)))→(∃X Y,zaz t X Y≠0∧D=ds ax e n (X+p2 (n-1)) (Y+p2 (n-1)))→EdS ax e n (fun u=>u=t) D:=fun h1 h2=>by
  refine⟨fun u hu a b hab=>?_,?_⟩
  ·have hu':u=t:=hu;subst hu';rw[hM] at hab;have:=h1 _ _ hab
   rwa [Int.sub_add_cancel,Int.sub_add_cancel] at this
  ·obtain⟨X,Y,k1,k2⟩:=h2;refine⟨t,X+p2 (n-1),Y+p2 (n-1),rfl,?_,k2⟩;rw[hM,Int.add_sub_cancel,Int.add_sub_cancel];exact k1
 obtain⟨Y1,a1⟩:=tw;obtain⟨Y2,a2⟩:=te;obtain⟨X3,a3⟩:=tn;obtain⟨X4,a4⟩:=ts;refine⟨key (fun X Y hX=>?_) ⟨_,_,a1,rfl⟩,key (fun X Y hX=>?_) ⟨_,_,a3,rfl⟩,key (fun X Y hX=>?_) ⟨_,_,a2,?_⟩,key (fun X Y hX=>?_) ⟨_,_,a4,?_⟩⟩
 ·have:=hc X Y hX;show x+p2 (n-1)≤X+p2 (n-1);omega
 ·have:=hc X Y hX;show y+p2 (n-1)≤Y+p2 (n-1);omega
 ·have:=hc X Y hX;show p2 n-w-(x+p2 (n-1))≤p2 n-1-(X+p2 (n-1));omega
 ·show p2 n-w-(x+p2 (n-1))=p2 n-1-(x+w-1+p2 (n-1));omega
 ·have:=hc X Y hX;show p2 n-h-(y+p2 (n-1))≤p2 n-1-(Y+p2 (n-1));omega
 ·show p2 n-h-(y+p2 (n-1))=p2 n-1-(y+h-1+p2 (n-1));omega
def zaF:List Nd:=[⟨1,0,1,0,0⟩,⟨1,0,0,1,0⟩,⟨1,1,1,0,0⟩,⟨1,1,0,0,0⟩,⟨2,1,2,3,4⟩,⟨3,0,0,0,5⟩]
def zcm:List Cl:=[⟨1,0,1⟩,⟨2,1,1⟩,⟨0,2,1⟩,⟨1,2,1⟩,⟨2,2,1⟩]
def zig:List (List UInt8):=[[0,1,0],[0,0,1],[1,1,1]]
def zbS:ByteArray:=⟨#[66,51,47,83,50,51]⟩
theorem zll:zaP zcm=zcm:=by kernel_rfl
theorem zfw:zaP zcm=zcy zaF:=by kernel_rfl
theorem zhh:OfL zaF zaF.length=zaF:=by kernel_rfl
theorem zkg:zcx (zaP zcm)=3:=by kernel_rfl
theorem zfx:zac zaF=true:=by kernel_rfl
theorem zlm {out:List Nd}(h:zaX (zaP zcm) out):out=zaF:=by
 have k:=zgJ zfx;rw[zhh,←zfw] at k;exact zhN h k fun _ _=>rfl
theorem zkh:zaX zcm zaF:=by
 have k:=zgJ zfx;rw[zhh,←zfw,zll] at k;exact k
theorem zqS (x y:Int)(h:lk zcm x y≠0):0≤x∧x≤2∧0≤y∧y≤2:=by
 unfold zcm lk lk lk lk lk lk at h;dsimp only at h;split at h
 ·omega
 ·split at h
  ·omega
  ·split at h
   ·omega
   ·split at h
    ·omega
    ·split at h
     ·omega
     ·exact absurd rfl h
theorem zfp:BxV zaF 6 true 0 0 3 3:=by
 have hd:=zkh.den;refine .inr ⟨by omega,rfl,zqR (by kernel_rfl) (fun X Y h=>?_) ⟨2,?_⟩ ⟨2,?_⟩ ⟨1,?_⟩ ⟨1,?_⟩⟩
 ·have:=zqS X Y (by rw[←hd];exact h);omega
 ·rw[show(6:Nat)=zaF.length from rfl,hd]
  decide
 ·rw[show(6:Nat)=zaF.length from rfl,hd]
  decide
 ·rw[show(6:Nat)=zaF.length from rfl,hd]
  decide
 ·rw[show(6:Nat)=zaF.length from rfl,hd]
  decide
theorem znW:zcP (picM (den zaF 6) 0 0) 3 3=zig:=by
 have e:picM (den zaF 6) 0 0=fun r c=>lk zcm (0+c) (0+r):=by
  funext r c;exact zkh.den _ _
 rw[e];show zcP (fun r c=>lk zcm (0+c) (0+r)) 3 3=zig;kernel_rfl
theorem go13:GoI zaF 6 3 0 0 0 zig:=.inr ⟨by omega,true,0,0,3,3,zfp,.inr ⟨by omega,rfl,rfl,rfl,znW.symm⟩⟩
theorem zwz:WinP zaF 6 3:=⟨0,0,3,3,true,zfp,by omega,by omega⟩
theorem zvR:mayP zbS zaF=true:=by kernel_rfl
theorem ck13:CkI 4 zbS zaF 6 3 0 0 :=
 ⟨fun h=>by rw[zvR] at h;exact absurd h (by decide),fun _=>.inl ⟨rfl,.inr ⟨zwz,.inl rfl⟩⟩⟩
theorem gf13:GfI 4 zbS zaF 6 3 0 0 0 0 zig:=.inr ⟨rfl,ck13,go13⟩
def ztv:List UInt8:=[35,67,88,82,76,69,32,80,111,115,61,48,44,48,10,120,32,61,32,51,44,32,121,32,61,32,51,44,32,114,117,108,101,32,61,32,66,51,47,83,50,51,10,98,111,36,50,98,111,36,51,111,33,10]
theorem zqT:zcR zbS.data.toList 0 0 zig=ztv:=by kernel_rfl
theorem fc13 {er:Int}{T:List UInt8}(h:FcI zbS zaF 6 3 0 er T):er=0∧T=ztv:=by
 obtain⟨e1,e2⟩:=h.one ⟨0,0,zig,gf13,.inr ⟨rfl,rfl⟩⟩;exact⟨e1,e2.trans zqT⟩
theorem zwA {er:Int}{T:List UInt8}(h:FcI zbS zaF 6 2 0 er T):er=5:=by
 obtain⟨X,Y,L,g,-⟩:=h;have key:∀e,CkI 4 zbS zaF 6 2 0 e→e=5:=fun e k=>by
  rcases k.2 (by rw[zvR];decide) with⟨-,h1⟩|⟨h1,-⟩
  ·rcases h1 with h1|⟨⟨X,Y,V,H,ok,b,h2,-⟩,-⟩
   ·omega
   ·rcases b with⟨h0,-⟩|⟨-,-,b⟩
    ·omega
    ·rcases zfp with⟨h0,-⟩|⟨-,-,b2⟩
     ·omega
     ·have:=b.one b2;omega
  ·exact h1
 rcases g with⟨-,g,-⟩|⟨rfl,g,-⟩
 ·exact key _ g
 ·exact key _ g
theorem ztw (box:Int)(hb:box≤80):∀X Y L,mayP zbS zaF=true→GoI zaF 6 box 0 X Y L→(∀r∈L,r.length≤99)∧L.length≤99:=fun X Y L _ g=>by
 rcases g with⟨-,h0,-⟩|⟨-,ok,X',Y',V,H,b,h1⟩
 ·omega
 ·rcases h1 with⟨-,h0,-⟩|⟨h2,-,-,-,rfl⟩
  ·omega
  ·rw[zdp];refine⟨fun r hr=>?_,by omega⟩;obtain⟨k,-,rfl⟩:=List.mem_map.1 hr;rw[zcA];omega
def zmO:List (List UInt8):=[[0,2,2],[0,0,0],[25,0,0]]
def ztx:List (List UInt8):=[[46],[50,66],[50,36],[112,65],[33]]
theorem zqU:zas zmO=ztx:=by kernel_rfl
def cv13 (a b c d e f g h:Bw):List Cv:=[⟨a.s,a.a,a.c,a.xs,false,none,0,[],1⟩,⟨b.s,b.a,b.c,b.xs,c.s,c.a,c.c,c.xs,1⟩,⟨false,none,0,[],d.s,d.a,d.c,d.xs,1⟩,⟨e.s,e.a,e.c,e.xs,f.s,f.a,f.c,f.xs,1⟩,⟨g.s,g.a,g.c,g.xs,h.s,h.a,h.c,h.xs,1⟩]
structure N13 (W:World)(a b c d e f g h:Bw):Prop where
 a:a.R W 1
 b:b.R W 2
 c:c.R W 1
 d:d.R W 2
 e:e.R W 1
 f:f.R W 2
 g:g.R W 2
 h:h.R W 2
theorem zqV {W:World}{a b c d e f g h:Bw}(k:N13 W a b c d e f g h):(cv13 a b c d e f g h).map Cv.cl=zcm:=by
 show[(⟨ival a.s a.xs,ival false [],_⟩:Cl),⟨ival b.s b.xs,ival c.s c.xs,_⟩,⟨ival false [],ival d.s d.xs,_⟩,⟨ival e.s e.xs,ival f.s f.xs,_⟩,⟨ival g.s g.xs,ival h.s h.xs,_⟩]=_;rw[k.a.v,k.b.v,k.c.v,k.d.v,k.e.v,k.f.v,k.g.v,k.h.v];rfl
theorem zuJ {w:World}{g:Nat}(v1 v2 v3 v4 v5:Cv)(h:w.heap[g]?=some (.cells #[.bool v1.sx,.slice v1.ax v1.xs.length v1.cx,.bool v1.sy,.slice v1.ay v1.ys.length v1.cy,.int .u8 v1.st,.bool v2.sx,.slice v2.ax v2.xs.length v2.cx,.bool v2.sy,.slice v2.ay v2.ys.length v2.cy,.int .u8 v2.st,.bool v3.sx,.slice v3.ax v3.xs.length v3.cx,.bool v3.sy,.slice v3.ay v3.ys.length v3.cy,.int .u8 v3.st,.bool v4.sx,.slice v4.ax v4.xs.length v4.cx,.bool v4.sy,.slice v4.ay v4.ys.length v4.cy,.int .u8 v4.st,.bool v5.sx,.slice v5.ax v5.xs.length v5.cx,.bool v5.sy,.slice v5.ay v5.ys.length v5.cy,.int .u8 v5.st] 78))(h1:CvU w v1)(h2:CvU w v2)(h3:CvU w v3)(h4:CvU w v4)(h5:CvU w v5):Cs w (some ⟨g,0,none⟩) 5 [v1,v2,v3,v4,v5]:=by
 refine⟨fun x hx=>?_,Nat.le_refl _,by simp[maxLen],fun _=>⟨g,0,rfl,(Array.getElem?_eq_some_iff.1 h).1,fun i hi=>?_⟩⟩
 ·simp only[List.mem_cons,List.not_mem_nil,or_false] at hx;rcases hx with rfl|rfl|rfl|rfl|rfl
  ·exact h1
  ·exact h2
  ·exact h3
  ·exact h4
  ·exact h5
 ·match i,hi with
  | 0,_=>refine⟨?_,?_,?_,?_,?_⟩ <;> (rw[cell_of_row _ _ _ _ _ _ h];rfl)
  | 1,_=>refine⟨?_,?_,?_,?_,?_⟩ <;> (rw[cell_of_row _ _ _ _ _ _ h];rfl)
  | 2,_=>refine⟨?_,?_,?_,?_,?_⟩ <;> (rw[cell_of_row _ _ _ _ _ _ h];rfl)
  | 3,_=>refine⟨?_,?_,?_,?_,?_⟩ <;> (rw[cell_of_row _ _ _ _ _ _ h];rfl)
  | 4,_=>refine⟨?_,?_,?_,?_,?_⟩ <;> (rw[cell_of_row _ _ _ _ _ _ h];rfl)
theorem zvS {W:World}{a b c d e f g h:Bw}(k:N13 W a b c d e f g h):mayB (cv13 a b c d e f g h) 5=true:=by
 have hn:∀{z:Bw} {n:Int},z.R W n→0≤n∧n<8→z.xs.length≤50:=fun r hz=>zaY r (zde (by omega)).1 (zde (by omega)).2;refine zqq.2 ⟨?_,?_,?_⟩
 ·unfold zcj;rw[Bool.or_eq_false_iff];refine⟨decide_eq_false (by show ¬ ((5:Int)<5);omega),List.any_eq_false.2 fun v hv=>?_⟩;unfold vast;rw[Bool.or_eq_true,decide_eq_true_iff,decide_eq_true_iff];have l1:=hn k.a (by omega);have l2:=hn k.b (by omega);have l3:=hn k.c (by omega);have l4:=hn k.d (by omega);have l5:=hn k.e (by omega);have l6:=hn k.f (by omega);have l7:=hn k.g (by omega);have l8:=hn k.h (by omega);simp only[cv13,List.mem_cons,List.not_mem_nil,or_false] at hv;rcases hv with rfl|rfl|rfl|rfl|rfl <;> (dsimp only[List.length_nil];omega)
 ·refine List.all_eq_true.2 fun v hv=>?_;simp only[cv13,List.mem_cons,List.not_mem_nil,or_false] at hv;rcases hv with rfl|rfl|rfl|rfl|rfl <;> (unfold okC;rw[Bool.and_eq_true])
  ·exact⟨zaL k.a.cn,rfl⟩
  ·exact⟨zaL k.b.cn,zaL k.c.cn⟩
  ·exact⟨rfl,zaL k.d.cn⟩
  ·exact⟨zaL k.e.cn,zaL k.f.cn⟩
  ·exact⟨zaL k.g.cn,zaL k.h.cn⟩
 ·rw[zqV k,zkg];omega
structure P13 (w W:World)(A:Option Addr)(c:Nat)(g2:Nat):Prop where
 b:Below w.heap.size w W
 np:Ns W A c zaF
 k2:W.heap[g2]?=some (.cells #[.string zbS,.slice A 6 c] 30)
theorem P13.next {w W W':World}{A:Option Addr}{c g2:Nat}(h:P13 w W A c g2)(k:Below W.heap.size W W'):P13 w W' A c g2 :=
 ⟨h.b.trans (k.mono h.b.size),h.np.below k,(k.block _ (zag h.k2)).trans h.k2⟩
theorem P13.cells {w W:World}{A:Option Addr}{c g2:Nat}(h:P13 w W A c g2) :
  W.cell? ⟨g2,0,none⟩=some (.string zbS)∧W.cell? ⟨g2,1,none⟩=some (.slice A 6 c) :=
 ⟨(cell_of_row W _ 0 _ _ (0,0) h.k2).trans rfl,(cell_of_row W _ 1 _ _ (0,0) h.k2).trans rfl⟩
theorem P13.start {w w2:World}{A:Option Addr}{c:Nat}(hb:Below w.heap.size w w2)(np:Ns w2 A c zaF) :
  P13 w (w2.alloc (.cells #[.string zbS,.slice A 6 c] 30)) A c w2.heap.size :=
 have a2:=(Below.refl w2.heap.size w2).alloc (Nat.le_refl _) (.cells #[.string zbS,.slice A 6 c] 30)
 ⟨hb.trans (a2.mono hb.size),np.below a2,heap_alloc_new w2 _⟩
theorem zeM {W:World}{b off c:Nat}(h:Ts W (some ⟨b,off,none⟩) c ztx) :
  W.cell? ⟨b,off,none⟩=some (.string ⟨#[46]⟩)∧W.cell? ⟨b,off+1,none⟩=some (.string ⟨#[50,66]⟩)∧W.cell? ⟨b,off+2,none⟩=some (.string ⟨#[50,36]⟩)∧W.cell? ⟨b,off+3,none⟩=some (.string ⟨#[112,65]⟩)∧W.cell? ⟨b,off+4,none⟩=some (.string ⟨#[33]⟩):=by
 obtain⟨b',off',e,-,k⟩:=h.at_ (by decide)
 cases e;exact⟨k 0 (by decide),k 1 (by decide),k 2 (by decide),k 3 (by decide),k 4 (by decide)⟩
theorem zln (w:World):Calls Tryz.prog 29 #[] w fun e w'=>e=.returned (.bool true)∧Below w.heap.size w w':=by
 have q0:True:=trivial;go_enter Tryz.func29,Tryz.ntmps29;rw[show(⟨#[66,51,47,83,50,51]⟩:ByteArray)=zbS from rfl];go_wp2_with (first
  | (have _t:=q0;go_at_call 48;clear _t;go_loud (refine(zba 1 _ (by omega) (by omega)).mono ?_;rintro e_ w1 h_;obtain⟨a,rfl,r_,b_⟩:=zam h_;have hca:=r_.us.cap;have la:=zaY r_ (zde (by omega)).1 (zde (by omega)).2;have Ra:=Hh r_;have B:=Hh b_;clear h_ r_ b_;have q1:=q0;clear q0))
  | (have _t:=q1;go_at_call 48;clear _t;go_loud (refine(zba 2 _ (by omega) (by omega)).mono ?_;rintro e_ w2 h_;obtain⟨b,rfl,r_,b_⟩:=zam h_;have hcb:=r_.us.cap;have lb:=zaY r_ (zde (by omega)).1 (zde (by omega)).2;have Ra:=Hh (Ra.out.next b_);have Rb:=Hh r_;have B:=Hh (B.out.trans (b_.mono B.out.size));clear h_ r_ b_;have q2:=q1;clear q1))
  | (have _t:=q2;go_at_call 48;clear _t;go_loud (refine(zba 1 _ (by omega) (by omega)).mono ?_;rintro e_ w3 h_;obtain⟨c,rfl,r_,b_⟩:=zam h_;have hcc:=r_.us.cap;have lc:=zaY r_ (zde (by omega)).1 (zde (by omega)).2;have Ra:=Hh (Ra.out.next b_);have Rb:=Hh (Rb.out.next b_);have Rc:=Hh r_;have B:=Hh (B.out.trans (b_.mono B.out.size));clear h_ r_ b_;have q3:=q2;clear q2))
  | (have _t:=q3;go_at_call 48;clear _t;go_loud (refine(zba 2 _ (by omega) (by omega)).mono ?_;rintro e_ w4 h_;obtain⟨d,rfl,r_,b_⟩:=zam h_;have hcd:=r_.us.cap;have ld:=zaY r_ (zde (by omega)).1 (zde (by omega)).2;have Ra:=Hh (Ra.out.next b_);have Rb:=Hh (Rb.out.next b_);have Rc:=Hh (Rc.out.next b_);have Rd:=Hh r_;have B:=Hh (B.out.trans (b_.mono B.out.size));clear h_ r_ b_;have q4:=q3;clear q3))
  | (have _t:=q4;go_at_call 48;clear _t;go_loud (refine(zba 1 _ (by omega) (by omega)).mono ?_;rintro e_ w5 h_;obtain⟨e,rfl,r_,b_⟩:=zam h_;have hce:=r_.us.cap;have le:=zaY r_ (zde (by omega)).1 (zde (by omega)).2;have Ra:=Hh (Ra.out.next b_);have Rb:=Hh (Rb.out.next b_);have Rc:=Hh (Rc.out.next b_);have Rd:=Hh (Rd.out.next b_);have Re:=Hh r_;have B:=Hh (B.out.trans (b_.mono B.out.size));clear h_ r_ b_;have q5:=q4;clear q4))
  | (have _t:=q5;go_at_call 48;clear _t;go_loud (refine(zba 2 _ (by omega) (by omega)).mono ?_;rintro e_ w6 h_;obtain⟨f,rfl,r_,b_⟩:=zam h_;have hcf:=r_.us.cap;have lf:=zaY r_ (zde (by omega)).1 (zde (by omega)).2;have Ra:=Hh (Ra.out.next b_);have Rb:=Hh (Rb.out.next b_);have Rc:=Hh (Rc.out.next b_);have Rd:=Hh (Rd.out.next b_);have Re:=Hh (Re.out.next b_);have Rf:=Hh r_;have B:=Hh (B.out.trans (b_.mono B.out.size));clear h_ r_ b_;have q6:=q5;clear q5))
  | (have _t:=q6;go_at_call 48;clear _t;go_loud (refine(zba 2 _ (by omega) (by omega)).mono ?_;rintro e_ w7 h_;obtain⟨g,rfl,r_,b_⟩:=zam h_;have hcg:=r_.us.cap;have lg:=zaY r_ (zde (by omega)).1 (zde (by omega)).2;have Ra:=Hh (Ra.out.next b_);have Rb:=Hh (Rb.out.next b_);have Rc:=Hh (Rc.out.next b_);have Rd:=Hh (Rd.out.next b_);have Re:=Hh (Re.out.next b_);have Rf:=Hh (Rf.out.next b_);have Rg:=Hh r_;have B:=Hh (B.out.trans (b_.mono B.out.size));clear h_ r_ b_;have q7:=q6;clear q6))
  | (have _t:=q7;go_at_call 48;clear _t;go_loud (refine(zba 2 _ (by omega) (by omega)).mono ?_;rintro e_ w8 h_;obtain⟨h,rfl,r_,b_⟩:=zam h_;have hch:=r_.us.cap;have lh:=zaY r_ (zde (by omega)).1 (zde (by omega)).2;have Ra:=Hh (Ra.out.next b_);have Rb:=Hh (Rb.out.next b_);have Rc:=Hh (Rc.out.next b_);have Rd:=Hh (Rd.out.next b_);have Re:=Hh (Re.out.next b_);have Rf:=Hh (Rf.out.next b_);have Rg:=Hh (Rg.out.next b_);have Rh:=Hh r_;have B:=Hh (B.out.trans (b_.mono B.out.size));clear h_ r_ b_;have q8:=q7;clear q7))
  | (have _t:=q8;go_at_call 13;clear _t;go_loud (have hal:=(Below.refl w8.heap.size w8).alloc (Nat.le_refl _) (.cells #[.bool a.s,.slice a.a a.xs.length a.c,.bool false,.slice none 0 0,.int .u8 1,.bool b.s,.slice b.a b.xs.length b.c,.bool c.s,.slice c.a c.xs.length c.c,.int .u8 1,.bool false,.slice none 0 0,.bool d.s,.slice d.a d.xs.length d.c,.int .u8 1,.bool e.s,.slice e.a e.xs.length e.c,.bool f.s,.slice f.a f.xs.length f.c,.int .u8 1,.bool g.s,.slice g.a g.xs.length g.c,.bool h.s,.slice h.a h.xs.length h.c,.int .u8 1] 78);have NN:=Hh (show N13 w8 a b c d e f g h from⟨Ra.out,Rb.out,Rc.out,Rd.out,Re.out,Rf.out,Rg.out,Rh.out⟩);refine(zjd (some ⟨w8.heap.size,0,none⟩) 5 5 5 zbS (cv13 a b c d e f g h) _ (by decide) (zuJ _ _ _ _ _ (heap_alloc_new w8 _) ⟨Ra.out.us.below hal,Us.nil _,by show 1≤255;omega⟩ ⟨Rb.out.us.below hal,Rc.out.us.below hal,by show 1≤255;omega⟩ ⟨Us.nil _,Rd.out.us.below hal,by show 1≤255;omega⟩ ⟨Re.out.us.below hal,Rf.out.us.below hal,by show 1≤255;omega⟩ ⟨Rg.out.us.below hal,Rh.out.us.below hal,by show 1≤255;omega⟩) rfl (by omega)).mono ?_;rintro e_ w9 ⟨A5,c5v,qn,q,ok,rfl,l5,n5,a5,b5,hok,-,hqo⟩;rw[zvS NN.out] at hok;subst hok;have e5:q=zaF:=zlm (by have:=hqo rfl;rwa [zqV NN.out] at this);subst e5;have e6:qn=6:=l5.symm;subst e6;have hc5:=n5.cap;have N5:=Hh n5;have B2:=Hh (B.out.trans ((hal.trans (b5.mono hal.size)).mono B.out.size));clear l5 n5 a5 b5 hqo hal NN;have q9:=q8;clear q8))
  | (have _t:=q9;go_at_call 30;clear _t;go_loud (have PP:=Hh (P13.start B2.out N5.out);obtain⟨c0,c1⟩:=PP.out.cells;refine(zdJ A5 c5v 6 zbS zaF 3 0 _ (by decide) PP.out.np rfl (by omega) (by omega) (ztw 3 (by omega))).mono ?_;rintro e_ w10 ⟨er,T,rfl,h_,b_⟩;obtain⟨rfl,rfl⟩:=fc13 h_;clear h_;have PP:=Hh (PP.out.next b_);clear c0 c1 b_;obtain⟨c0,c1⟩:=PP.out.cells;have q10:=q9;clear q9))
  | (have _t:=q10;go_at_call 30;clear _t;go_loud (refine(zdJ A5 c5v 6 zbS zaF 2 0 _ (by decide) PP.out.np rfl (by omega) (by omega) (ztw 2 (by omega))).mono ?_;rintro e_ w11 ⟨er,T,rfl,h_,b_⟩;have e7:=zwA h_;subst e7;clear h_;have PP:=Hh (PP.out.next b_);clear c0 c1 b_;obtain⟨c0,c1⟩:=PP.out.cells;have q11:=q10;clear q10))
  | (have _t:=q11;go_at_call 33;clear _t;go_loud (have hal:=(Below.refl w11.heap.size w11).alloc (Nat.le_refl _) (.cells #[.string ⟨#[0,2,2]⟩,.string ⟨#[0,0,0]⟩,.string ⟨#[25,0,0]⟩] 9);have PP:=Hh (PP.out.next ((Below.refl w11.heap.size w11).alloc (Nat.le_refl _) (.cells #[.string ⟨#[0,2,2]⟩,.string ⟨#[0,0,0]⟩,.string ⟨#[25,0,0]⟩] 9)));refine(zhg ⟨bw0,bw0,some ⟨w11.heap.size,0,none⟩,3,zmO⟩ _ (zvM (heap_alloc_new w11 (.cells #[.string ⟨#[0,2,2]⟩,.string ⟨#[0,0,0]⟩,.string ⟨#[25,0,0]⟩] 9)) (show ∀r∈zmO,r.length≤maxLen from by decide) (show 3≤maxLen from by decide)) (show ∀r∈zmO,r.length≤99 from by decide) (show 3≤99 from by decide)).mono ?_;rintro e_ w12 ⟨At,ct,nt,rfl,ln_,t_,b_⟩;rw[zqU] at ln_ t_;have e8:nt=5:=ln_.symm;subst e8;have hct:=t_.cap;obtain⟨tb,toff,rfl,-,hat⟩:=t_.at_ (by decide);have PP:=Hh (PP.out.next b_);clear c0 c1 b_ hal ln_;have TT:=Hh t_;clear t_;obtain⟨k0,k1,k2,k3,k4⟩:=zeM TT.out;clear hat;have q12:=q11;clear q11))
  | (have _t:=q12;go_at_call 36;clear _t;go_loud (refine(zeL false 255 _ (by omega)).mono ?_;rintro e_ w13 ⟨rfl,b_⟩;have PP:=Hh (PP.out.next b_);have TT:=Hh (TT.out.below b_);clear k0 k1 k2 k3 k4 b_;obtain⟨k0,k1,k2,k3,k4⟩:=zeM TT.out;have q13:=q12;clear q12))
  | (have _t:=q13;go_at_call 36;clear _t;go_loud (refine(zeL true 48 _ (by omega)).mono ?_;rintro e_ w14 ⟨rfl,b_⟩;have PP:=Hh (PP.out.next b_);have TT:=Hh (TT.out.below b_);clear k0 k1 k2 k3 k4 b_;obtain⟨k0,k1,k2,k3,k4⟩:=zeM TT.out;have q14:=q13;clear q13))
  | (have _t:=q14;go_at_call 36;clear _t;go_loud (refine(zeL true 1 _ (by omega)).mono ?_;rintro e_ w15 ⟨rfl,b_⟩;have PP:=Hh (PP.out.next b_);have TT:=Hh (TT.out.below b_);clear k0 k1 k2 k3 k4 b_;obtain⟨k0,k1,k2,k3,k4⟩:=zeM TT.out;have q15:=q14;clear q14)))
 go_ret;exact⟨rfl,PP.out.b⟩
theorem zki {a b:Int}(h:zdM a=zdM b):a=b:=by
 have hno:∀n m,¬ (45 :: Digs.digs n=Digs.digs m):=fun n m e=>by
  have h1:=Digs.digs_isd m 45 (by rw[←e];exact List.mem_cons_self);exact absurd h1 (by decide)
 have hin:∀n m,Digs.digs n=Digs.digs m→n=m:=fun n m e=>by
  rw[←Digs.num_digs n,e,Digs.num_digs]
 unfold zdM Digs.text at h;by_cases ha:a<0
 ·by_cases hb:b<0
  ·rw[decide_eq_true ha,decide_eq_true hb,if_pos rfl,if_pos rfl] at h;have:=hin _ _ (List.cons.inj h).2;omega
  ·rw[decide_eq_true ha,decide_eq_false hb,if_pos rfl,if_neg (by decide)] at h;exact(hno _ _ h).elim
 ·by_cases hb:b<0
  ·rw[decide_eq_false ha,decide_eq_true hb,if_pos rfl,if_neg (by decide)] at h;exact(hno _ _ h.symm).elim
  ·rw[decide_eq_false ha,decide_eq_false hb,if_neg (by decide),if_neg (by decide)] at h;have:=hin _ _ h;omega
theorem zeN {c:UInt8}(h1:c≠45)(h2:Digs.isd c=false)(z:Int):c∉zdM z:=fun h=>by
 have h3:∀n,c∉Digs.digs n:=fun n k=>by
  have:=Digs.digs_isd n c k;rw[h2] at this;cases this
 unfold zdM Digs.text at h;split at h
 ·rcases List.mem_cons.1 h with h|h
  ·exact h1 h
  ·exact h3 _ h
 ·exact h3 _ h
theorem zdK {c:UInt8}:∀{a b r s:List UInt8},c∉a→c∉b→a++c :: r=b++c :: s→a=b∧r=s
 | [],[],r,s,_,_,h=>⟨rfl,(List.cons.inj h).2⟩
 | [],y :: b,r,s,_,hb,h=>absurd (by rw[(List.cons.inj h).1];exact List.mem_cons_self) hb
 | x :: a,[],r,s,ha,_,h=>absurd (by rw[(List.cons.inj h).1];exact List.mem_cons_self) ha
 | x :: a,y :: b,r,s,ha,hb,h=>by
  obtain⟨h1,h2⟩:=List.cons.inj h;obtain⟨h3,h4⟩:=zdK (fun k=>ha (List.mem_cons_of_mem _ k)) (fun k=>hb (List.mem_cons_of_mem _ k)) h2;exact⟨by rw[h1,h3],h4⟩
theorem zmP {c:UInt8}:∀{A B:List (List UInt8)},(∀r∈A,c∉r)→(∀r∈B,c∉r)→(A.map fun r=>r++[c]).flatten=(B.map fun r=>r++[c]).flatten→A=B
 | [],[],_,_,_=>rfl
 | [],y :: B,_,_,h=>by simp at h
 | x :: A,[],_,_,h=>by simp at h
 | x :: A,y :: B,hA,hB,h=>by
  rw[List.map_cons,List.map_cons,List.flatten_cons,List.flatten_cons,List.append_assoc,List.append_assoc] at h;obtain⟨h1,h2⟩:=zdK (hA x List.mem_cons_self) (hB y List.mem_cons_self) (show x++c :: (A.map fun r=>r++[c]).flatten=y++c :: (B.map fun r=>r++[c]).flatten from h);rw[h1,zmP (fun r hr=>hA r (List.mem_cons_of_mem _ hr)) (fun r hr=>hB r (List.mem_cons_of_mem _ hr)) h2]
theorem zcT:∀(l:List UInt8) (i:Nat),(zah l).length≤i→l.getD i 0=0
 | [],i,_=>by simp
 | y :: r,i,h=>by
  have e:zah (y :: r)=if y=0∧zah r=[] then [] else y :: zah r:=rfl
  by_cases hc:y=0∧zah r=[]
  ·cases i with
   | zero=>exact hc.1
   | succ i=>exact zcT r i (by rw[hc.2];exact Nat.zero_le _)
  ·rw[e,if_neg hc,List.length_cons] at h;obtain⟨j,rfl⟩:∃j,i=j+1:=⟨i-1,by omega⟩;exact zcT r j (by omega)
def SgnS (l:List UInt8):Prop:=l≠[]∧l.length≤2∧∀c,l.head?=some c→Digs.isd c=false
def tokD (n:Nat):List UInt8:=if n=1 then [] else Digs.digs n
theorem zfy (n:Nat)(s:List UInt8):tokR n s=tokD n++s:=by
 unfold tokR tokD;split <;> rfl
theorem zge {n:Nat}:∀c∈tokD n,Digs.isd c=true:=fun c hc=>by
 unfold tokD at hc;split at hc
 ·cases hc
 ·exact Digs.digs_isd _ _ hc
def gapT (b:Bool)(L:List (List UInt8)):Nat→Nat→Nat→List (List UInt8)
 | 0,_,_=>[]
 | f+1,k,j=>if zah (tat L k)=[] then gapT b L f (k+1) j else tokR (k-j) [36] :: (zbe b (zah (tat L k))++gapT b L f (k+1) k)
theorem zlo {b:Bool}{L:List (List UInt8)}:∀(f k j:Nat),(tokK b L k).2=some j→(tokK b L (k+f)).1=(tokK b L k).1++gapT b L f k j
 | 0,k,j,_=>(List.append_nil _).symm
 | f+1,k,j,h=>by
  have e:gapT b L (f+1) k j=if zah (tat L k)=[] then gapT b L f (k+1) j else tokR (k-j) [36] :: (zbe b (zah (tat L k))++gapT b L f (k+1) k):=rfl
  rw[show k+(f+1)=k+1+f by omega,e];by_cases h0:zah (tat L k)=[]
  ·rw[if_pos h0,zlo f (k+1) j (by rw[zbx h0];exact h),zbx h0]
  ·rw[if_neg h0,zlo f (k+1) k (by rw[zcl h0 h]),zcl h0 h];show(tokK b L k).1++[tokR (k-j) [36]]++zbe b (zah (tat L k))++gapT b L f (k+1) k=_;rw[List.append_assoc,List.append_assoc];rfl
theorem zhi {b:Bool}{L:List (List UInt8)}:∀{k:Nat},(∀j,j<k→zah (tat L j)=[])→tokK b L k=([],none)
 | 0,_=>rfl
 | k+1,h=>by
  rw[zbx (h k (by omega))];exact zhi fun j hj=>h j (by omega)
theorem zhj {L:List (List UInt8)}{y f:Nat}(h:∀j,j<y→zah (tat L j)=[])(hy:zah (tat L y)≠[])(hf:y+1+f=L.length) :
  zas L=zbe (twoR L) (zah (tat L y))++gapT (twoR L) L f (y+1) y++[[33]]:=by
 have e1:tokK (twoR L) L (y+1)=(zbe (twoR L) (zah (tat L y)),some y):=by
  rw[zbZ hy (by rw[zhi h]),zhi h];rfl
 unfold zas;rw[←hf,zlo f (y+1) y (by rw[e1]),e1]
theorem zcn {b:Bool}{L:List (List UInt8)}:∀(f k j:Nat),(gapT b L f k j=[]∧∀i,k≤i→i<k+f→zah (tat L i)=[]) ∨
  ∃y g,k≤y∧y+1+g=k+f∧(∀i,k≤i→i<y→zah (tat L i)=[])∧zah (tat L y)≠[]∧gapT b L f k j=tokR (y-j) [36] :: (zbe b (zah (tat L y))++gapT b L g (y+1) y)
 | 0,k,j=>.inl ⟨rfl,fun i h1 h2=>by omega⟩
 | f+1,k,j=>by
  have e:gapT b L (f+1) k j=if zah (tat L k)=[] then gapT b L f (k+1) j else tokR (k-j) [36] :: (zbe b (zah (tat L k))++gapT b L f (k+1) k):=rfl
  by_cases h0:zah (tat L k)=[]
  ·rw[e,if_pos h0];rcases zcn (b:=b) (L:=L) f (k+1) j with⟨h1,h2⟩|⟨y,g,h1,h2,h3,h4,h5⟩
   ·refine .inl ⟨h1,fun i hi1 hi2=>?_⟩;rcases Nat.eq_or_lt_of_le hi1 with rfl|h
    ·exact h0
    ·exact h2 i (by omega) (by omega)
   ·refine .inr ⟨y,g,by omega,by omega,fun i hi1 hi2=>?_,h4,h5⟩;rcases Nat.eq_or_lt_of_le hi1 with rfl|h
    ·exact h0
    ·exact h3 i (by omega) (by omega)
  ·rw[e,if_neg h0];exact .inr ⟨k,f,Nat.le_refl _,by omega,fun i h1 h2=>by omega,h0,rfl⟩
theorem zdr (b:Bool){n:Nat}(hn:n≤255):SgnS (sgnR b n)∧sgnR b n≠[36]:=by
 have key:∀b n,n<256→(sgnR b n≠[]∧(sgnR b n).length≤2∧(∀c,(sgnR b n).head?=some c→Digs.isd c=false))∧sgnR b n≠[36]:=by
  intro b n h;have k2:∀b:Bool,∀i:Fin 256,(decide (sgnR b i.1≠[])&&decide ((sgnR b i.1).length≤2)&&(match (sgnR b i.1).head? with|some c => !Digs.isd c|none=>true)&&decide (sgnR b i.1≠[36]))=true:=by decide +kernel
  have k3:=k2 b ⟨n,h⟩;rw[Bool.and_eq_true,Bool.and_eq_true,Bool.and_eq_true] at k3;obtain⟨⟨⟨a1,a2⟩,a3⟩,a4⟩:=k3;refine⟨⟨of_decide_eq_true a1,of_decide_eq_true a2,fun c hc=>?_⟩,of_decide_eq_true a4⟩;dsimp only at hc a3;rw[hc] at a3;simpa using a3
 exact key b n (by omega)
theorem zhk:SgnS [36]:=⟨by decide,by decide,fun c hc=>by cases hc;rfl⟩
theorem zeO {b:Bool}{r:List UInt8}(h:zbe b r=[]):r=[]:=by
 by_cases h0:r=[]
 ·exact h0
 ·rw[zaS b h0] at h;cases h
theorem zih {l:List (List UInt8)}(h4:∀t∈l,t.length≤4)(h10:∀t∈l,(10:UInt8)∉t):∀k,k≤l.length →
  ∃(R:List (List UInt8)) (c:List UInt8),(zbE l k).1=(R.map fun r=>r++[10]).flatten++c∧c.length=(zbE l k).2∧c.length≤70∧(10:UInt8)∉c∧(∀r∈R,r.length≤70∧(10:UInt8)∉r)∧R.flatten++c=(l.take k).flatten
 | 0,_=>⟨[],[],rfl,rfl,Nat.zero_le _,by simp,fun r hr=>(by cases hr),rfl⟩
 | k+1,hk=>by
  obtain⟨R,c,h1,h2,h3,h5,h6,h7⟩:=zih h4 h10 k (by omega);have ht:l[k]?=some (tat l k):=by
   unfold tat;rw[List.getElem?_eq_getElem (by omega)];rfl
  have hm:tat l k∈l:=List.mem_of_getElem? ht;have t4:=h4 _ hm;have t10:=h10 _ hm;have hf:(l.take (k+1)).flatten=(l.take k).flatten++tat l k:=by
   rw[List.take_add_one,ht,List.flatten_append];show _++[tat l k].flatten=_;rw[List.flatten_singleton]
  by_cases hc:70<(zbE l k).2+(tat l k).length
  ·rw[zhc hc];refine⟨R++[c],tat l k,?_,rfl,by omega,t10,fun r hr=>?_,?_⟩
   ·show(zbE l k).1++[10]++tat l k=_;rw[h1,List.map_append,List.flatten_append];simp
   ·rcases List.mem_append.1 hr with hr|hr
    ·exact h6 r hr
    ·rw[List.mem_singleton.1 hr];exact⟨h3,h5⟩
   ·rw[hf,←h7,List.flatten_append,List.flatten_singleton]
  ·rw[zjj hc];refine⟨R,c++tat l k,?_,?_,?_,?_,h6,?_⟩
   ·show(zbE l k).1++tat l k=_;rw[h1,List.append_assoc]
   ·show _=(zbE l k).2+(tat l k).length;rw[List.length_append,h2]
   ·rw[List.length_append,h2];omega
   ·intro hm2;rcases List.mem_append.1 hm2 with h8|h8
    ·exact h5 h8
    ·exact t10 h8
   ·rw[hf,←h7,List.append_assoc]
theorem zed {l:List (List UInt8)}(h4:∀t∈l,t.length≤4)(h10:∀t∈l,(10:UInt8)∉t) :
  ∃R:List (List UInt8),zhv l=(R.map fun r=>r++[10]).flatten∧R≠[]∧(∀r∈R,r.length≤70∧(10:UInt8)∉r)∧R.flatten=l.flatten:=by
 obtain⟨R,c,h1,h2,h3,h5,h6,h7⟩:=zih h4 h10 l.length (Nat.le_refl _);refine⟨R++[c],?_,by simp,fun r hr=>?_,?_⟩
 ·unfold zhv;rw[h1,List.map_append,List.flatten_append,List.append_assoc];simp
 ·rcases List.mem_append.1 hr with hr|hr
  ·exact h6 r hr
  ·rw[List.mem_singleton.1 hr];exact⟨h3,h5⟩
 ·rw[List.flatten_append,List.flatten_singleton,h7,List.take_length]
theorem zqW {A B:List (List UInt8)}(hA:∀r∈A,(10:UInt8)∉r)(hB:∀r∈B,(10:UInt8)∉r)(h:(A.map fun r=>r++[10]).flatten=(B.map fun r=>r++[10]).flatten):A=B:=zmP hA hB h
theorem znX {l m:List (List UInt8)}(h4:∀t∈l,t.length≤4)(h10:∀t∈l,(10:UInt8)∉t)(k4:∀t∈m,t.length≤4)(k10:∀t∈m,(10:UInt8)∉t)(h:zhv l=zhv m):l.flatten=m.flatten:=by
 obtain⟨A,a1,-,a3,a4⟩:=zed h4 h10;obtain⟨B,b1,-,b3,b4⟩:=zed k4 k10;rw[←a4,←b4,zqW (fun r hr=>(a3 r hr).2) (fun r hr=>(b3 r hr).2) (a1.symm.trans (h.trans b1))]
def zsP (c:UInt8):Bool:=decide (112≤c.toNat)
def tokB:List UInt8→Bool
 | []=>false
 | c :: r=>if Digs.isd c=true then tokB r else if zsP c=true then decide (r.length=1) else decide (r=[])
theorem zqX {t:List UInt8}(h:tokB t=true):t≠[]:=fun e=>by
 rw[e] at h;cases h
theorem zkj:∀{t t' r r':List UInt8},tokB t=true→tokB t'=true→t++r=t'++r'→t=t'∧r=r'
 | [],_,_,_,h,_,_=>by cases h
 | _ :: _,[],_,_,_,h,_=>by cases h
 | c :: t,c' :: t',r,r',h,k,e=>by
  obtain⟨rfl,e2⟩:=List.cons.inj (show c :: (t++r)=c' :: (t'++r') from e);have h1:(if Digs.isd c=true then tokB t else if zsP c=true then decide (t.length=1) else decide (t=[]))=true:=h;have k1:(if Digs.isd c=true then tokB t' else if zsP c=true then decide (t'.length=1) else decide (t'=[]))=true:=k;by_cases hd:Digs.isd c=true
  ·rw[if_pos hd] at h1 k1;obtain⟨e3,e4⟩:=zkj h1 k1 e2;exact⟨by rw[e3],e4⟩
  ·rw[if_neg hd] at h1 k1;by_cases hl:zsP c=true
   ·rw[if_pos hl] at h1 k1;have h2:=of_decide_eq_true h1;have k2:=of_decide_eq_true k1;obtain⟨e3,e4⟩:=List.append_inj e2 (h2.trans k2.symm);exact⟨by rw[e3],e4⟩
   ·rw[if_neg hl] at h1 k1;have h2:=of_decide_eq_true h1;have k2:=of_decide_eq_true k1;subst h2;subst k2;exact⟨rfl,e2⟩
theorem zmQ:∀{A B:List (List UInt8)},(∀t∈A,tokB t=true)→(∀t∈B,tokB t=true)→A.flatten=B.flatten→A=B
 | [],[],_,_,_=>rfl
 | [],b :: B,_,hB,e=>by
  have h1:=zqX (hB b List.mem_cons_self);have h2:b++B.flatten=[]:=e.symm;exact absurd (List.append_eq_nil_iff.1 h2).1 h1
 | a :: A,[],hA,_,e=>by
  have h1:=zqX (hA a List.mem_cons_self);have h2:a++A.flatten=[]:=e;exact absurd (List.append_eq_nil_iff.1 h2).1 h1
 | a :: A,b :: B,hA,hB,e=>by
  obtain⟨e1,e2⟩:=zkj (hA a List.mem_cons_self) (hB b List.mem_cons_self) (show a++A.flatten=b++B.flatten from e);rw[e1,zmQ (fun t ht=>hA t (List.mem_cons_of_mem _ ht)) (fun t ht=>hB t (List.mem_cons_of_mem _ ht)) e2]
theorem zhl:∀{d s:List UInt8},(∀c∈d,Digs.isd c=true)→tokB (d++s)=tokB s
 | [],_,_=>rfl
 | c :: d,s,h=>by
  show(if Digs.isd c=true then tokB (d++s) else _)=_;rw[if_pos (h c List.mem_cons_self)];exact zhl fun x hx=>h x (List.mem_cons_of_mem _ hx)
theorem zmR {n:Nat}{s:List UInt8}(h:tokB s=true):tokB (tokR n s)=true:=by
 rw[zfy,zhl zge];exact h
theorem zqY (b:Bool){v:Nat}(hv:v≤255):tokB (sgnR b v)=true:=by
 have k2:∀b:Bool,∀i:Fin 256,tokB (sgnR b i.1)=true:=by decide +kernel
 exact k2 b ⟨v,by omega⟩
theorem zjk (b:Bool):∀(m:Nat) (r:List UInt8),r.length≤m→∀t∈zbe b r,tokB t=true
 | 0,r,h,t,ht=>by
  have e:r=[]:=List.eq_nil_of_length_eq_zero (by omega);rw[e] at ht;cases ht
 | m+1,r,h,t,ht=>by
  by_cases h0:r=[]
  ·rw[h0] at ht;cases ht
  ·have h1:=zbY h0;rw[zaS b h0] at ht;rcases List.mem_cons.1 ht with rfl|ht
   ·exact zmR (zqY b (by have:=UInt8.toNat_lt (r.headD 0);omega))
   ·exact zjk b m _ (by rw[List.length_drop];omega) t ht
theorem zeP {b:Bool}{L:List (List UInt8)}:∀k,∀t∈(tokK b L k).1,tokB t=true
 | 0,t,ht=>by cases ht
 | k+1,t,ht=>by
  by_cases h0:zah (tat L k)=[]
  ·rw[zbx h0] at ht;exact zeP k t ht
  ·cases hj:(tokK b L k).2 with
   | none =>
    rw[zbZ h0 hj] at ht;rcases List.mem_append.1 ht with ht|ht
    ·exact zeP k t ht
    ·exact zjk b _ _ (Nat.le_refl _) t ht
   | some j =>
    rw[zcl h0 hj] at ht;rcases List.mem_append.1 ht with ht|ht
    ·rcases List.mem_append.1 ht with ht|ht
     ·exact zeP k t ht
     ·rw[List.mem_singleton.1 ht];exact zmR (by kernel_rfl)
    ·exact zjk b _ _ (Nat.le_refl _) t ht
theorem zmS (L:List (List UInt8)):∀t∈zas L,tokB t=true:=fun t ht=>by
 unfold zas at ht;rcases List.mem_append.1 ht with ht|ht
 ·exact zeP _ t ht
 ·rw[List.mem_singleton.1 ht];kernel_rfl
theorem zlp {L M:List (List UInt8)}(h:(zas L).flatten=(zas M).flatten):zas L=zas M:=zmQ (zmS L) (zmS M) h
theorem zfz:∀{d d' s s':List UInt8},(∀c∈d,Digs.isd c=true)→(∀c∈d',Digs.isd c=true)→SgnS s→SgnS s'→d++s=d'++s'→d=d'∧s=s'
 | [],[],_,_,_,_,_,_,e=>⟨rfl,e⟩
 | [],c :: d',s,s',_,h',hs,_,e=>by
  have h1:=hs.2.2 c (by rw[show s=c :: (d'++s') from e];rfl);rw[h' c List.mem_cons_self] at h1;cases h1
 | c :: d,[],s,s',h,_,_,hs,e=>by
  have h1:=hs.2.2 c (by rw[show s'=c :: (d++s) from e.symm];rfl);rw[h c List.mem_cons_self] at h1;cases h1
 | c :: d,c' :: d',s,s',h,h',hs,hs',e=>by
  obtain⟨rfl,e2⟩:=List.cons.inj (show c :: (d++s)=c' :: (d'++s') from e);obtain⟨e3,e4⟩:=zfz (fun x hx=>h x (List.mem_cons_of_mem _ hx)) (fun x hx=>h' x (List.mem_cons_of_mem _ hx)) hs hs' e2;exact⟨by rw[e3],e4⟩
theorem zsQ {n m:Nat}(h:tokD n=tokD m):n=m:=by
 unfold tokD at h;by_cases hn:n=1
 ·by_cases hm:m=1
  ·rw[hn,hm]
  ·rw[if_pos hn,if_neg hm] at h;exact absurd h.symm (Digs.digs_ne m)
 ·by_cases hm:m=1
  ·rw[if_neg hn,if_pos hm] at h;exact absurd h (Digs.digs_ne n)
  ·rw[if_neg hn,if_neg hm] at h;rw[←Digs.num_digs n,h,Digs.num_digs]
theorem zjl {n m:Nat}{s t:List UInt8}(hs:SgnS s)(ht:SgnS t)(h:tokR n s=tokR m t):n=m∧s=t:=by
 rw[zfy,zfy] at h;obtain⟨h1,h2⟩:=zfz zge zge hs ht h;exact⟨zsQ h1,h2⟩
def unS:List UInt8→Nat
 | [c]=>if c=98 then 0 else if c=111 then 1 else if c=46 then 0 else c.toNat-64
 | [a,c]=>25+(a.toNat-112)*24+(c.toNat-65)
 | _=>0
theorem zmT (b:Bool){v:Nat}(hv:v≤255):unS (sgnR b v)=v:=by
 have k2:∀b:Bool,∀i:Fin 256,unS (sgnR b i.1)=i.1:=by decide +kernel
 exact k2 b ⟨v,by omega⟩
theorem zuK {b:Bool}{v u:Nat}(hv:v≤255)(hu:u≤255)(h:sgnR b v=sgnR b u):v=u:=by
 rw[←zmT b hv,h,zmT b hu]
theorem zqZ {v u:Nat}(hv:v≤1)(hu:u≤255):sgnR true v≠sgnR false u:=by
 have k2:∀i:Fin 256,sgnR true 0≠sgnR false i.1∧sgnR true 1≠sgnR false i.1:=by decide +kernel
 have k3:=k2 ⟨u,by omega⟩;rcases Nat.eq_zero_or_pos v with rfl|h
 ·exact k3.1
 ·rw[show v=1 by omega];exact k3.2
theorem zbK (r:List UInt8):(r.headD 0).toNat≤255:=by
 have:=UInt8.toNat_lt (r.headD 0);omega
theorem zmU {r:List UInt8}(h:r≠[]):r=List.replicate (runN r) (r.headD 0)++r.drop (runN r):=by
 have h1:=zfn r;have e:r.take (runN r)=List.replicate (runN r) (r.headD 0):=by
  refine List.ext_getElem? fun j=>?_;rw[List.getElem?_take,List.getElem?_replicate];by_cases hj:j<runN r
  ·rw[if_pos hj,if_pos hj,zji hj];cases r with
   | nil=>exact absurd rfl h
   | cons x l=>rfl
  ·rw[if_neg hj,if_neg hj]
 rw[←e,List.take_append_drop]
theorem zlq {b:Bool}:∀(m:Nat) {r s:List UInt8},r.length≤m→zbe b r=zbe b s→r=s
 | m,r,s,hm,h=>by
  by_cases hr:r=[]
  ·subst hr;exact(zeO h.symm).symm
  ·by_cases hs:s=[]
   ·subst hs;exact absurd (zeO h) hr
   ·have h1:=zbY hr;rw[zaS b hr,zaS b hs] at h;obtain⟨e1,e2⟩:=List.cons.inj h;obtain⟨e3,e4⟩:=zjl (zdr b (zbK r)).1 (zdr b (zbK s)).1 e1;have e5:=UInt8.toNat_inj.1 (zuK (zbK r) (zbK s) e4)
    match m,hm with
    | 0,hm=>exact absurd (List.eq_nil_of_length_eq_zero (by omega)) hr
    | m+1,hm =>
     have e6:=zlq m (by rw[List.length_drop];omega) e2;rw[zmU hr,zmU hs,e6,e3,e5]
def zee (t:List UInt8):Bool:=t.getLast?==some 36||t.getLast?==some 33
theorem zra {b:Bool}{n v:Nat}(hv:v≤255):zee (tokR n (sgnR b v))=false:=by
 have k2:∀b:Bool,∀i:Fin 256,zee (sgnR b i.1)=false:=by decide +kernel
 have k3:zee (sgnR b v)=false:=k2 b ⟨v,by omega⟩;have hne:=(zdr b hv).1.1;rw[zfy];unfold zee at k3 ⊢;rw[List.getLast?_append,Option.or_of_isSome (by rw[List.getLast?_isSome];exact hne)];exact k3
theorem zeQ {b:Bool}:∀(m:Nat) (r:List UInt8),r.length≤m→∀t∈zbe b r,zee t=false
 | 0,r,h,t,ht=>by
  have e:r=[]:=List.eq_nil_of_length_eq_zero (by omega);rw[e] at ht;cases ht
 | m+1,r,h,t,ht=>by
  by_cases h0:r=[]
  ·rw[h0] at ht;cases ht
  ·have h1:=zbY h0;rw[zaS b h0] at ht;rcases List.mem_cons.1 ht with rfl|ht
   ·exact zra (zbK r)
   ·exact zeQ m _ (by rw[List.length_drop];omega) t ht
theorem zef (n:Nat):zee (tokR n [36])=true:=by
 rw[zfy];unfold zee;rw[List.getLast?_append];rfl
theorem zfq:∀{A B X Y:List (List UInt8)} {x y:List UInt8},(∀t∈A,zee t=false)→(∀t∈B,zee t=false)→zee x=true→zee y=true→A++x :: X=B++y :: Y→A=B∧x=y∧X=Y
 | [],[],X,Y,x,y,_,_,_,_,e=>⟨rfl,(List.cons.inj e).1,(List.cons.inj e).2⟩
 | [],b :: B,X,Y,x,y,_,hB,hx,_,e=>by
  have h1:=hB b List.mem_cons_self;rw[←(List.cons.inj e).1,hx] at h1;cases h1
 | a :: A,[],X,Y,x,y,hA,_,_,hy,e=>by
  have h1:=hA a List.mem_cons_self;rw[(List.cons.inj e).1,hy] at h1;cases h1
 | a :: A,b :: B,X,Y,x,y,hA,hB,hx,hy,e=>by
  obtain⟨rfl,e2⟩:=List.cons.inj (show a :: (A++x :: X)=b :: (B++y :: Y) from e);obtain⟨h1,h2,h3⟩:=zfq (fun t ht=>hA t (List.mem_cons_of_mem _ ht)) (fun t ht=>hB t (List.mem_cons_of_mem _ ht)) hx hy e2;exact⟨by rw[h1],h2,h3⟩
end Go.Proofs.YtfjajpnfjjdnpaaGreatDoor
