import Derived.Test.YtcippfaljoagaaaGreatDoorHRuO

set_option linter.unusedVariables false
set_option linter.unusedSimpArgs false
set_option maxRecDepth 100000
set_option maxHeartbeats 6400000
namespace Go.Proofs.YtcippfaljoagaaaGreatDoor
open Go.RowKit Num Nds Txt
theorem Oc.s6 {w W:World}{A:Option Addr}{n c:Nat}{q:List Nd}{s:ByteArray}{box nodes:Int}{g6:Nat}{u:Gr}{X Y:Int}(h:Oc w A n c q s box nodes g6 u X Y W) :
  W.cell? ⟨g6,0,none⟩=some (.bool u.x.s)∧W.cell? ⟨g6,1,none⟩=some (.slice u.x.a u.x.xs.length u.x.c)∧W.cell? ⟨g6,2,none⟩=some (.bool u.y.s)∧W.cell? ⟨g6,3,none⟩=some (.slice u.y.a u.y.xs.length u.y.c)∧W.cell? ⟨g6,4,none⟩=some (.slice u.a u.L.length u.c)∧W.cell? ⟨w.heap.size,0,none⟩=some (.string s):=by
 obtain⟨c0,c1,c2,c3,c4⟩:=Gr.cells h.gk;exact⟨c0,c1,c2,c3,c4,h.o.cells.1⟩
theorem zbv (A:Option Addr)(c n:Nat)(s:ByteArray)(q:List Nd)(box nodes:Int)(w:World)(hs:s.size≤1000)(h:Ns w A c q)(hn:q.length=n)(hn9:n≤900000)(hm : -9223372036854775808≤box∧box≤9223372036854775807)
  (hsz:∀X Y L,mayP s q=true→GoI q n box 0 X Y L→(∀r∈L,r.length≤99)∧L.length≤99) :
  Calls Tryz.prog 38 #[.agg #[.string s,.slice A n c],.agg #[.int .i64 box,.int .i64 nodes]] w (zvA s q n box nodes w):=by
 have hcap:=h.cap;rw[hn] at hcap;have OG:=Hh (Og.start (s:=s) (box:=box) (nodes:=nodes) (n:=n) h);have HN:=Hh hn;have HS:=Hh hs;obtain⟨c0,c1,c2,c3⟩:=OG.out.cells;clear h hn;go_enter Tryz.func38,Tryz.ntmps38;go_upto_if 15 with(go_at_call 48;go_loud (refine(zlc A c n s q 4 box nodes _ (by unfold maxLen;omega) OG.out.ns HN.out hn9 hm).mono ?_;rintro e w2 ⟨er,rfl,ck,b_⟩;have OG:=Hh (OG.out.next b_);have CK:=Hh ck;clear b_ ck c0 c1 c2 c3;obtain⟨c0,c1,c2,c3⟩:=OG.out.cells))
 by_cases he:er=0
 ·subst he;have HG:=Hh (zmx (zgX CK.out).1);go_upto_region 5 with(go_at_call 25;go_loud (refine(zsb A c n q box _ OG.out.ns HN.out hn9 HG.out hm).mono ?_;rintro e w3 ⟨u,X,Y,er,rfl,ru,lu,-,b_,gi⟩;obtain rfl:=zsO (by omega) CK.out gi;have hal:=(Below.refl w3.heap.size w3).alloc (Nat.le_refl _) u.obj;have OC:=Hh (show Oc w A n c q s box nodes w3.heap.size u X Y (w3.alloc u.obj) from⟨(OG.out.next b_).next hal,heap_alloc_new w3 u.obj,ru.next hal⟩);have GI:=Hh gi;have HZZ:=Hh (hsz X Y u.L (zgX CK.out).1 gi);clear b_ ru lu gi hal c0 c1 c2 c3;obtain⟨c0,c1,c2,c3⟩:=OC.out.o.cells;obtain⟨g0,g1,g2,g3,g4⟩:=Gr.cells OC.out.gk))
  obtain⟨g6,hg6⟩:∃g,g=w3.heap.size:=⟨_,rfl⟩;obtain⟨W0,hW0⟩:∃W:World,W=w3.alloc u.obj:=⟨_,rfl⟩;rw[←hW0] at OC c0 c1 c2 c3 g0 g1 g2 g3 g4 ⊢;rw[←hg6] at OC g0 g1 g2 g3 g4 ⊢;clear hW0 hg6;have hhi:=GoI.hi HG.out HN.out GI.out;have lx:=zau OC.out.r.x hhi.1.1 hhi.1.2;have ly:=zau OC.out.r.y hhi.2.1 hhi.2.2;obtain⟨tx,htx⟩:∃t:ByteArray,t=⟨(zho X).toArray⟩:=⟨_,rfl⟩;obtain⟨ty,hty⟩:∃t:ByteArray,t=⟨(zho Y).toArray⟩:=⟨_,rfl⟩;have zx:tx.size≤700:=by rw[htx,zax,←zcu OC.out.r.x];exact zfd 0 _ _ OC.out.r.x.us.1 (by omega)
  have zy:ty.size≤700:=by rw[hty,zax,←zcu OC.out.r.y];exact zfd 0 _ _ OC.out.r.y.us.1 (by omega)
  have HWD:=Hh (show zhn u.L≤99 by
   unfold zhn tat;cases hq:u.L with
   | nil=>exact Nat.zero_le _
   | cons r l=>exact HZZ.out.1 r (by rw[hq];exact List.mem_cons_self))
  obtain⟨wd,hwd⟩:∃k,k=zhn u.L:=⟨_,rfl⟩;rw[←hwd] at HWD;have HHI:=Hh HZZ.out.2;obtain⟨tw,htw⟩:∃t:ByteArray,t=⟨(Digs.digs wd).toArray⟩:=⟨_,rfl⟩;obtain⟨th,hth⟩:∃t:ByteArray,t=⟨(Digs.digs u.L.length).toArray⟩:=⟨_,rfl⟩;have zw:tw.size≤2:=by rw[htw,zax];exact zdm (by have:=HWD.out;omega)
  have zh:th.size≤2:=by rw[hth,zax];exact zdm (by have:=HHI.out;omega)
  have HTX:=Hh htx;have HTY:=Hh hty;have HTW:=Hh htw;have HTH:=Hh hth;have HWE:=Hh hwd;have NW:=Hh (zqo (show wd<100000 by have:=HWD.out;omega));have NH:=Hh (zqo (show u.L.length<100000 by have:=HHI.out;omega));have m0:(9223372036854775807<11+tx.size)=False:=eq_false (by have:=HS.out;omega);have m1:(9223372036854775807<11+tx.size+1)=False:=eq_false (by have:=HS.out;omega);have m2:(9223372036854775807<11+tx.size+1+ty.size)=False:=eq_false (by have:=HS.out;omega);have m3:(9223372036854775807<11+tx.size+1+ty.size+1)=False:=eq_false (by have:=HS.out;omega);have m4:(9223372036854775807<11+tx.size+1+ty.size+1+4)=False:=eq_false (by have:=HS.out;omega);have m5:(9223372036854775807<11+tx.size+1+ty.size+1+4+tw.size)=False:=eq_false (by have:=HS.out;omega);have m6:(9223372036854775807<11+tx.size+1+ty.size+1+4+tw.size+6)=False:=eq_false (by have:=HS.out;omega);have m7:(9223372036854775807<11+tx.size+1+ty.size+1+4+tw.size+6+th.size)=False:=eq_false (by have:=HS.out;omega);have m8:(9223372036854775807<11+tx.size+1+ty.size+1+4+tw.size+6+th.size+9)=False:=eq_false (by have:=HS.out;omega);have m9:(9223372036854775807<11+tx.size+1+ty.size+1+4+tw.size+6+th.size+9+s.size)=False:=eq_false (by have:=HS.out;omega);have m10:(9223372036854775807<11+tx.size+1+ty.size+1+4+tw.size+6+th.size+9+s.size+1)=False:=eq_false (by have:=HS.out;omega);clear hhi htx hty htw hth hsz hwd;rcases Nat.eq_zero_or_pos u.L.length with hl0|hl0
  case' inl=>(
   have hw0:wd=0:=by rw[HWE.out,List.length_eq_zero_iff.1 hl0];rfl
   have t5:decide ((u.L.length:Int)>0)=false:=decide_eq_false (by omega);have t6:decide (0<u.L.length)=false:=decide_eq_false (by omega);have t7:(0<u.L.length)=False:=eq_false (by omega);clear hl0;go_upto_region 8 with fail
   rw[show(Value.int .i64 0)=.int .i64 (wd:Int) by rw[hw0];rfl];clear t5 t6 t7 hw0)
  case' inr=>(
   obtain⟨b2,o2,hA2,-,hcc⟩:=OC.out.r.t.at_ hl0
   have s0:=hcc 0 hl0;rw[Nat.add_zero] at s0;unfold strV at s0;obtain⟨r0,hr0⟩:∃r:ByteArray,r=⟨(tat u.L 0).toArray⟩:=⟨_,rfl⟩;have hrw:r0.size=wd:=by rw[hr0,zax,HWE.out];rfl
   rw[←hr0] at s0;rw[hA2] at g4;have t5:decide ((u.L.length:Int)>0)=true:=decide_eq_true (by omega);have t6:decide (0<u.L.length)=true:=decide_eq_true (by omega);have t7:(0<u.L.length)=True:=eq_true hl0;have t8:(0:Int)<(u.L.length:Int):=by omega
   clear hl0 hcc hr0 hA2;go_upto_region 8 with fail
   try rw[hrw]
   clear t5 t6 t7 t8 hrw s0)
  all_goals (
   clear c0 c1 c2 c3 g0 g1 g2 g3 g4;obtain⟨v0,hv0⟩:∃W1:World,W1=W0.drew:=⟨_,rfl⟩;have Q0:=Hh (show Oc w A n c q s box nodes g6 u X Y v0 by rw[hv0];exact OC.out.next (Below.drew' (Below.refl _ _)));refine wp_region_noPanic ?_;refine wp_region_held (S:=fun w'=>w'.cell? ⟨g6,0,none⟩=some (.bool u.x.s)∧w'.cell? ⟨g6,1,none⟩=some (.slice u.x.a u.x.xs.length u.x.c)∧w'.cell? ⟨g6,2,none⟩=some (.bool u.y.s)∧w'.cell? ⟨g6,3,none⟩=some (.slice u.y.a u.y.xs.length u.y.c)∧w'.cell? ⟨g6,4,none⟩=some (.slice u.a u.L.length u.c)∧w'.cell? ⟨w.heap.size,0,none⟩=some (.string s)) (by kernel_rfl) ?_;change wpAnyH _ _ _ _ _ _ _ _ W0.drew;rw[←hv0];clear hv0;have hS0:=Q0.out.s6;refine Tk1 (v:=?_) 0 hS0 ?_ ?_;rotate_left
   ·rintro w' ⟨_,_,_,_,_,_⟩;go_simp;first|done|with_reducible rfl|rfl
   simp only[Act.put,LA];refine Tk1 (v:=?_) 1 hS0 ?_ ?_;rotate_left
   ·rintro w' ⟨_,_,_,_,_,_⟩;go_simp;first|done|with_reducible rfl|rfl
   simp only[Act.put,LA];refine Tk1 (v:=?_) 5 hS0 ?_ ?_;rotate_left
   ·rintro w' ⟨_,_,_,_,_,_⟩;go_simp;first|done|with_reducible rfl|rfl
   simp only[Act.put,LA];refine Tk1 (v:=?_) 6 hS0 ?_ ?_;rotate_left
   ·rintro w' ⟨_,_,_,_,_,_⟩;go_simp;first|done|with_reducible rfl|rfl
   simp only[Act.put,LA];refine Rd1 2 fun K hK=>?_;go_simp;refine(zdE u.x.s u.x.a u.x.c u.x.xs _ Q0.out.r.x.us (by omega)).mono ?_;rintro e v1 ⟨rfl,b_⟩;rw[zcu Q0.out.r.x,←HTX.out];dsimp only;have Q1:=Hh (Q0.out.next b_);have hS1:=Q1.out.s6;refine hK.out _ _ hS1 (fun _=>?_);clear hK K;clear b_;refine Tk1 (v:=?_) 3 hS1 ?_ ?_;rotate_left
   ·rintro w' ⟨_,_,_,_,_,_⟩;go_simp;first|done|with_reducible rfl|rfl
   simp only[Act.put,LA];refine Tk1 (v:=?_) 4 hS1 ?_ ?_;rotate_left
   ·rintro w' ⟨_,_,_,_,_,_⟩;go_simp;first|done|with_reducible rfl|rfl
   simp only[Act.put,LA];refine Rd1 7 fun K hK=>?_;go_simp;refine(zdE u.y.s u.y.a u.y.c u.y.xs _ Q1.out.r.y.us (by omega)).mono ?_;rintro e v2 ⟨rfl,b_⟩;rw[zcu Q1.out.r.y,←HTY.out];dsimp only;have Q2:=Hh (Q1.out.next b_);have hS2:=Q2.out.s6;refine hK.out _ _ hS2 (fun _=>?_);clear hK K;clear b_;refine Tk1 (v:=?_) 8 hS2 ?_ ?_;rotate_left
   ·rintro w' ⟨_,_,_,_,_,_⟩;go_simp;first|done|with_reducible rfl|rfl
   simp only[Act.put,LA];refine Tk1 (v:=?_) 9 hS2 ?_ ?_;rotate_left
   ·rintro w' ⟨_,_,_,_,_,_⟩;go_simp;first|done|with_reducible rfl|rfl
   simp only[Act.put,LA];refine Tk1 (v:=?_) 10 hS2 ?_ ?_;rotate_left
   ·rintro w' ⟨_,_,_,_,_,_⟩;go_simp;first|done|with_reducible rfl|rfl
   simp only[Act.put,LA];refine wpAnyH_done (by kernel_rfl) ?_ _;refine NoPanic.normal ?_;go_upto_region 9 with fail
   obtain⟨x3,hx3⟩:∃W1:World,W1=v2.drew:=⟨_,rfl⟩;have Q3:=Hh (show Oc w A n c q s box nodes g6 u X Y x3 by rw[hx3];exact Q2.out.next (Below.drew' (Below.refl _ _)));refine wp_region_noPanic ?_;refine wp_region_held (S:=fun w'=>w'.cell? ⟨g6,0,none⟩=some (.bool u.x.s)∧w'.cell? ⟨g6,1,none⟩=some (.slice u.x.a u.x.xs.length u.x.c)∧w'.cell? ⟨g6,2,none⟩=some (.bool u.y.s)∧w'.cell? ⟨g6,3,none⟩=some (.slice u.y.a u.y.xs.length u.y.c)∧w'.cell? ⟨g6,4,none⟩=some (.slice u.a u.L.length u.c)∧w'.cell? ⟨w.heap.size,0,none⟩=some (.string s)) (by kernel_rfl) ?_;change wpAnyH _ _ _ _ _ _ _ _ v2.drew;rw[←hx3];clear hx3;have hS3:=Q3.out.s6;refine Tk1 (v:=?_) 0 hS3 ?_ ?_;rotate_left
   ·rintro w' ⟨_,_,_,_,_,_⟩;go_simp;first|done|with_reducible rfl|rfl
   simp only[Act.put,LA];refine Tk1 (v:=?_) 1 hS3 ?_ ?_;rotate_left
   ·rintro w' ⟨_,_,_,_,_,_⟩;go_simp;first|done|with_reducible rfl|rfl
   simp only[Act.put,LA];refine Tk1 (v:=?_) 2 hS3 ?_ ?_;rotate_left
   ·rintro w' ⟨_,_,_,_,_,_⟩;go_simp;first|done|with_reducible rfl|rfl
   simp only[Act.put,LA];refine Tk1 (v:=?_) 7 hS3 ?_ ?_;rotate_left
   ·rintro w' ⟨_,_,_,_,_,_⟩;go_simp;first|done|with_reducible rfl|rfl
   simp only[Act.put,LA];refine Tk1 (v:=?_) 8 hS3 ?_ ?_;rotate_left
   ·rintro w' ⟨_,_,_,_,_,_⟩;go_simp;first|done|with_reducible rfl|rfl
   simp only[Act.put,LA];refine Tk1 (v:=?_) 9 hS3 ?_ ?_;rotate_left
   ·rintro w' ⟨_,_,_,_,_,_⟩;go_simp;first|done|with_reducible rfl|rfl
   simp only[Act.put,LA];refine Tk1 (v:=?_) 14 hS3 ?_ ?_;rotate_left
   ·rintro w' ⟨_,_,_,_,_,_⟩;go_simp;first|done|with_reducible rfl|rfl
   simp only[Act.put,LA];refine Tk1 (v:=?_) 15 hS3 ?_ ?_;rotate_left
   ·rintro w' ⟨_,_,_,_,_,_⟩;go_simp;first|done|with_reducible rfl|rfl
   simp only[Act.put,LA];refine Rd1 3 fun K hK=>?_;go_simp;refine(zaQ (wd:Int) _ (by have:=HWD.out;omega) (by have:=HWD.out;omega)).mono ?_;rintro e x4 h_;obtain⟨a,rfl,ra,b_⟩:=zag h_;dsimp only;have Q4:=Hh (Q3.out.next b_);have hS4:=Q4.out.s6;refine hK.out _ _ hS4 (fun _=>?_);clear hK K;have la:=zau ra NW.out.1 NW.out.2;have hca:=ra.us.cap;have RA:=Hh ra;clear b_ h_ ra;refine Rd1 4 fun K hK=>?_;go_simp;refine(zdE a.s a.a a.c a.xs _ RA.out.us (by omega)).mono ?_;rintro e x5 ⟨rfl,b_⟩;rw[show Digs.text a.s (val a.xs)=Digs.digs wd from(zcu RA.out).trans (zhf wd),←HTW.out];dsimp only;have Q5:=Hh (Q4.out.next b_);have hS5:=Q5.out.s6;refine hK.out _ _ hS5 (fun _=>?_);clear hK K;clear b_;refine Tk1 (v:=?_) 5 hS5 ?_ ?_;rotate_left
   ·rintro w' ⟨_,_,_,_,_,_⟩;go_simp;first|done|with_reducible rfl|rfl
   simp only[Act.put,LA];refine Tk1 (v:=?_) 6 hS5 ?_ ?_;rotate_left
   ·rintro w' ⟨_,_,_,_,_,_⟩;go_simp;first|done|with_reducible rfl|rfl
   simp only[Act.put,LA];refine Rd1 10 fun K hK=>?_;go_simp;refine(zaQ (u.L.length:Int) _ (by have:=HHI.out;omega) (by have:=HHI.out;omega)).mono ?_;rintro e x6 h_;obtain⟨b,rfl,rb,b_⟩:=zag h_;dsimp only;have Q6:=Hh (Q5.out.next b_);have hS6:=Q6.out.s6;refine hK.out _ _ hS6 (fun _=>?_);clear hK K;have lb:=zau rb NH.out.1 NH.out.2;have hcb:=rb.us.cap;have RB:=Hh rb;clear b_ h_ rb;refine Rd1 11 fun K hK=>?_;go_simp;refine(zdE b.s b.a b.c b.xs _ RB.out.us (by omega)).mono ?_;rintro e x7 ⟨rfl,b_⟩;rw[show Digs.text b.s (val b.xs)=Digs.digs u.L.length from(zcu RB.out).trans (zhf _),←HTH.out];dsimp only;have Q7:=Hh (Q6.out.next b_);have hS7:=Q7.out.s6;refine hK.out _ _ hS7 (fun _=>?_);clear hK K;clear b_;refine Tk1 (v:=?_) 12 hS7 ?_ ?_;rotate_left
   ·rintro w' ⟨_,_,_,_,_,_⟩;go_simp;first|done|with_reducible rfl|rfl
   simp only[Act.put,LA];refine Tk1 (v:=?_) 13 hS7 ?_ ?_;rotate_left
   ·rintro w' ⟨_,_,_,_,_,_⟩;go_simp;first|done|with_reducible rfl|rfl
   simp only[Act.put,LA];refine Tk1 (v:=?_) 16 hS7 ?_ ?_;rotate_left
   ·rintro w' ⟨_,_,_,_,_,_⟩;go_simp;first|done|with_reducible rfl|rfl
   simp only[Act.put,LA];refine Tk1 (v:=?_) 17 hS7 ?_ ?_;rotate_left
   ·rintro w' ⟨_,_,_,_,_,_⟩;go_simp;first|done|with_reducible rfl|rfl
   simp only[Act.put,LA];refine Tk1 (v:=?_) 18 hS7 ?_ ?_;rotate_left
   ·rintro w' ⟨_,_,_,_,_,_⟩;go_simp;first|done|with_reducible rfl|rfl
   simp only[Act.put,LA];refine wpAnyH_done (by kernel_rfl) ?_ _;refine NoPanic.normal ?_;obtain⟨g0,g1,g2,g3,g4⟩:=Gr.cells Q7.out.gk;go_wp2_with (first
    | (go_at_call 35;go_loud (refine(zlm u _ Q7.out.r.u HZZ.out.1 HZZ.out.2).mono ?_;rintro e w5 ⟨A5,c5,n5,rfl,l5,ts5,b_⟩;have Q8:=Hh (Q7.out.next b_);have L5:=Hh l5;have T5:=Hh ts5;have hn5:n5≤10000:=(by rw[←l5];exact zdX HZZ.out.1 HZZ.out.2);have hc5:=ts5.cap;rw[l5] at hc5;clear b_ l5 ts5 g0 g1 g2 g3 g4))
    | (go_at_call 80;go_loud (refine(zqq A5 c5 n5 _ _ T5.out L5.out (zbK HZZ.out.1 HZZ.out.2) (by omega)).mono ?_;rintro e w6 ⟨rfl,b_⟩;have Q9:=Hh (Q8.out.next b_);obtain⟨tl,htl⟩:∃t:ByteArray,t=⟨(ziW (zbE u.L)).toArray⟩:=⟨_,rfl⟩;rw[←htl];have HTL:=Hh htl;have ztl:tl.size≤600000:=(by rw[htl,zax];exact zqi (zbK HZZ.out.1 HZZ.out.2) (by have:=zdX HZZ.out.1 HZZ.out.2;omega));have mz:(9223372036854775807<11+tx.size+1+ty.size+1+4+tw.size+6+th.size+9+s.size+1+tl.size)=False:=eq_false (by have:=HS.out;omega);clear htl b_)))
   go_ret2;refine⟨0,zfK s.data.toList X Y u.L,?_,⟨X,Y,u.L,.inr ⟨rfl,CK.out,GI.out⟩,.inr ⟨rfl,rfl⟩⟩,Q9.out.o.b⟩;have key:∀t:ByteArray,t.data.toList=zfK s.data.toList X Y u.L→Ending.returned (.tuple #[.string t,.int .i64 0])=Ending.returned (.tuple #[.string ⟨(zfK s.data.toList X Y u.L).toArray⟩,.int .i64 0]):=fun t ht=>by
    rw[show t=⟨(zfK s.data.toList X Y u.L).toArray⟩ from zjY ht]
   refine key _ ?_;unfold zfK;rw[←HWE.out];simp[ByteArray.data_append,zul,zum,zun,zuo,HTX.out,HTY.out,HTW.out,HTH.out,HTL.out])
 ·have t1:(er != 0)=true:=by rw[bne_iff_ne];exact he
  have HE:=Hh he;clear he;go_wp2_with fail;go_ret2;exact⟨er,[],rfl,⟨0,0,[],.inl ⟨HE.out,CK.out,rfl,rfl,rfl⟩,.inl ⟨HE.out,rfl⟩⟩,OG.out.b⟩
theorem zea {q:List Nd}{n:Nat}{box X Y:Int}{L:List (List UInt8)}(hx:box≤80∨1000<box)(g:GoI q n box 0 X Y L):(∀r∈L,r.length≤99)∧L.length≤99:=by
 rcases g with⟨-,h0,-⟩|⟨hm,ok,X',Y',V,H,b,h1⟩
 ·omega
 ·rcases h1 with⟨-,h0,-⟩|⟨h2,-,-,-,rfl⟩
  ·omega
  ·rw[zcX];refine⟨fun r hr=>?_,by omega⟩;obtain⟨k,-,rfl⟩:=List.mem_map.1 hr;rw[zbQ];omega
theorem zsU (q:List Nd)(n:Nat)(m:Int):∃b:Bool,∀X Y V H ok,BxV q n ok X Y V H→(decide (V≤m)&&decide (H≤m))=b:=by
 by_cases h:∃X Y V H ok,BxV q n ok X Y V H
 ·obtain⟨X,Y,V,H,ok,b⟩:=h;refine⟨decide (V≤m)&&decide (H≤m),fun X' Y' V' H' ok' b'=>?_⟩;obtain⟨-,-,-,e1,e2⟩:=b.one b';rw[e1,e2]
 ·exact⟨true,fun X Y V H ok b=>absurd ⟨X,Y,V,H,ok,b⟩ h⟩
theorem zln (A:Option Addr)(c n:Nat)(s:ByteArray)(q:List Nd)(box nodes:Int)(w:World)(hs:s.size≤maxLen)(h:Ns w A c q)(hn:q.length=n)(hb : -9223372036854775808≤box∧box≤9223372036854775807)(hx:100<s.size∨(s.size≤100∧200<n)∨(s.size≤100∧n≤200∧80<box∧box≤1000)) :
  Calls Tryz.prog 8 #[.agg #[.string s,.slice A n c],.agg #[.int .i64 box,.int .i64 nodes]] w fun e w'=>e=.returned (.bool true)∧Below w.heap.size w w':=by
 have hcn:=h.cap;rw[hn] at hcn;have PP:=Hh (Pa.start (n:=n) h s box nodes);obtain⟨c0,c1,c2,c3⟩:=PP.out.cells;have HN:=Hh hn;have HM:=Hh hb;have q0:True:=trivial;rcases hx with hx|⟨h1,hx⟩|⟨h1,h2,h3,h4⟩
 ·have t1:decide ((s.size:Int)>100)=true:=decide_eq_true (by omega);clear h hn hb hs hx;go_enter Tryz.func8,Tryz.ntmps8;go_wp2_with (have _t:=q0;go_at_call 28;clear _t;go_loud (refine(zaD _).mono ?_;rintro e w1 ⟨rfl,b_⟩;have PP:=Hh (PP.out.next b_);clear c0 c1 c2 c3 b_;obtain⟨c0,c1,c2,c3⟩:=PP.out.cells;have q1:=q0;clear q0));go_ret;exact⟨rfl,PP.out.b⟩
 ·have t1:decide ((s.size:Int)>100)=false:=decide_eq_false (by omega);have t2:decide ((n:Int)>200)=true:=decide_eq_true (by omega);clear h hn hb hs hx h1;go_enter Tryz.func8,Tryz.ntmps8;go_wp2_with (have _t:=q0;go_at_call 28;clear _t;go_loud (refine(zaD _).mono ?_;rintro e w1 ⟨rfl,b_⟩;have PP:=Hh (PP.out.next b_);clear c0 c1 c2 c3 b_;obtain⟨c0,c1,c2,c3⟩:=PP.out.cells;have q1:=q0;clear q0));go_ret;exact⟨rfl,PP.out.b⟩
 ·have t1:decide ((s.size:Int)>100)=false:=decide_eq_false (by omega);have t2:decide ((n:Int)>200)=false:=decide_eq_false (by omega);have t3:decide (box>80)=true:=decide_eq_true (by omega);have t4:decide (box≤1000)=true:=decide_eq_true (by omega);clear h hn hb hs h1 h2 h3 h4;go_enter Tryz.func8,Tryz.ntmps8;go_wp2_with (have _t:=q0;go_at_call 28;clear _t;go_loud (refine(zaD _).mono ?_;rintro e w1 ⟨rfl,b_⟩;have PP:=Hh (PP.out.next b_);clear c0 c1 c2 c3 b_;obtain⟨c0,c1,c2,c3⟩:=PP.out.cells;have q1:=q0;clear q0));go_ret;exact⟨rfl,PP.out.b⟩
theorem zvD (A:Option Addr)(c n:Nat)(s:ByteArray)(q:List Nd)(box nodes:Int)(w:World)(hs:s.size≤maxLen)(h:Ns w A c q)(hn:q.length=n)(hb : -9223372036854775808≤box∧box≤9223372036854775807)(h1:n≤200)(h2:s.size≤100)(hx:box≤80∨1000<box)(hR:zce q=false) :
  Calls Tryz.prog 8 #[.agg #[.string s,.slice A n c],.agg #[.int .i64 box,.int .i64 nodes]] w fun e w'=>e=.returned (.bool true)∧Below w.heap.size w w':=by
 have hcn:=h.cap;rw[hn] at hcn;have PP:=Hh (Pa.start (n:=n) h s box nodes);obtain⟨c0,c1,c2,c3⟩:=PP.out.cells;have HN:=Hh hn;have HM:=Hh hb;have q0:True:=trivial;have t1:decide ((s.size:Int)>100)=false:=decide_eq_false (by omega);have t2:decide ((n:Int)>200)=false:=decide_eq_false (by omega);have HS:=Hh (show s.size≤1000 by omega);have HN9:=Hh (show n≤900000 by omega);have HX:=Hh hx;have HR:=Hh hR;rcases hx with hx|hx
 ·have t3:decide (box>80)=false:=decide_eq_false (by omega);clear h hn hb hs h1 h2 hR hx;go_enter Tryz.func8,Tryz.ntmps8;go_wp2_with (first
   | (have _t:=q0;go_at_call 28;clear _t;go_loud (refine(zaD _).mono ?_;rintro e w1 ⟨rfl,b_⟩;have PP:=Hh (PP.out.next b_);clear c0 c1 c2 c3 b_;obtain⟨c0,c1,c2,c3⟩:=PP.out.cells;have q1:=q0;clear q0))
   | (have _t:=q1;go_at_call 19;clear _t;go_loud (refine(zaP A c n q _ PP.out.ns HN.out (by have:=HN9.out;omega)).mono ?_;rintro e w2 ⟨rfl,b_⟩;rw[HR.out];have PP:=Hh (PP.out.next b_);clear c0 c1 c2 c3 b_;obtain⟨c0,c1,c2,c3⟩:=PP.out.cells;have q2:=q1;clear q1))
   | (have _t:=q2;go_at_call 37;clear _t;go_loud (refine(zbd A c n s q box nodes _ HS.out PP.out.ns HN.out HN9.out HM.out (fun _ _ _ _ g=>zea HX.out g)).mono ?_;rintro e x1 ⟨e1,T1,rfl,h_,b_⟩;have H1:=Hh h_;clear h_;have PP:=Hh (PP.out.next b_);clear c0 c1 c2 c3 b_;obtain⟨c0,c1,c2,c3⟩:=PP.out.cells;have q3:=q2;clear q2))
   | (have _t:=q3;go_at_call 38;clear _t;go_loud (refine(zbv A c n s q box nodes _ HS.out PP.out.ns HN.out HN9.out HM.out (fun _ _ _ _ g=>zea HX.out g)).mono ?_;rintro e x2 ⟨e2,T2,rfl,h_,b_⟩;obtain⟨rfl,rfl⟩:=H1.out.one h_;clear h_ H1;have PP:=Hh (PP.out.next b_);clear c0 c1 c2 c3 b_;obtain⟨c0,c1,c2,c3⟩:=PP.out.cells;have q4:=q3;clear q3)))
  go_ret;exact⟨rfl,PP.out.b⟩
 ·have t3:decide (box>80)=true:=decide_eq_true (by omega);have t4:decide (box≤1000)=false:=decide_eq_false (by omega);clear h hn hb hs h1 h2 hR hx;go_enter Tryz.func8,Tryz.ntmps8;go_wp2_with (first
   | (have _t:=q0;go_at_call 28;clear _t;go_loud (refine(zaD _).mono ?_;rintro e w1 ⟨rfl,b_⟩;have PP:=Hh (PP.out.next b_);clear c0 c1 c2 c3 b_;obtain⟨c0,c1,c2,c3⟩:=PP.out.cells;have q1:=q0;clear q0))
   | (have _t:=q1;go_at_call 19;clear _t;go_loud (refine(zaP A c n q _ PP.out.ns HN.out (by have:=HN9.out;omega)).mono ?_;rintro e w2 ⟨rfl,b_⟩;rw[HR.out];have PP:=Hh (PP.out.next b_);clear c0 c1 c2 c3 b_;obtain⟨c0,c1,c2,c3⟩:=PP.out.cells;have q2:=q1;clear q1))
   | (have _t:=q2;go_at_call 37;clear _t;go_loud (refine(zbd A c n s q box nodes _ HS.out PP.out.ns HN.out HN9.out HM.out (fun _ _ _ _ g=>zea HX.out g)).mono ?_;rintro e x1 ⟨e1,T1,rfl,h_,b_⟩;have H1:=Hh h_;clear h_;have PP:=Hh (PP.out.next b_);clear c0 c1 c2 c3 b_;obtain⟨c0,c1,c2,c3⟩:=PP.out.cells;have q3:=q2;clear q2))
   | (have _t:=q3;go_at_call 38;clear _t;go_loud (refine(zbv A c n s q box nodes _ HS.out PP.out.ns HN.out HN9.out HM.out (fun _ _ _ _ g=>zea HX.out g)).mono ?_;rintro e x2 ⟨e2,T2,rfl,h_,b_⟩;obtain⟨rfl,rfl⟩:=H1.out.one h_;clear h_ H1;have PP:=Hh (PP.out.next b_);clear c0 c1 c2 c3 b_;obtain⟨c0,c1,c2,c3⟩:=PP.out.cells;have q4:=q3;clear q3)))
  go_ret;exact⟨rfl,PP.out.b⟩
theorem zuv (A:Option Addr)(c n:Nat)(s:ByteArray)(q:List Nd)(box nodes:Int)(w:World)(hs:s.size≤maxLen)(h:Ns w A c q)(hn:q.length=n)(hb : -9223372036854775808≤box∧box≤9223372036854775807)(h1:n≤200)(h2:s.size≤100)(hx:box≤80∨1000<box)(hR:zce q=true)(hv:zaB q≤200) :
  Calls Tryz.prog 8 #[.agg #[.string s,.slice A n c],.agg #[.int .i64 box,.int .i64 nodes]] w fun e w'=>e=.returned (.bool true)∧Below w.heap.size w w':=by
 have hcn:=h.cap;rw[hn] at hcn;have PP:=Hh (Pa.start (n:=n) h s box nodes);obtain⟨c0,c1,c2,c3⟩:=PP.out.cells;have HN:=Hh hn;have HM:=Hh hb;have q0:True:=trivial;have t1:decide ((s.size:Int)>100)=false:=decide_eq_false (by omega);have t2:decide ((n:Int)>200)=false:=decide_eq_false (by omega);have HS:=Hh (show s.size≤1000 by omega);have HN9:=Hh (show n≤900000 by omega);have HX:=Hh hx;have HR:=Hh hR;obtain⟨lv,hlv⟩:∃v,v=zaB q:=⟨_,rfl⟩;have HLV:=Hh hlv;have t5:decide (lv>200)=false:=decide_eq_false (by omega);rcases hx with hx|hx
 ·have t3:decide (box>80)=false:=decide_eq_false (by omega);clear h hn hb hs h1 h2 hR hx hlv hv;go_enter Tryz.func8,Tryz.ntmps8;go_wp2_with (first
   | (have _t:=q0;go_at_call 28;clear _t;go_loud (refine(zaD _).mono ?_;rintro e w1 ⟨rfl,b_⟩;have PP:=Hh (PP.out.next b_);clear c0 c1 c2 c3 b_;obtain⟨c0,c1,c2,c3⟩:=PP.out.cells;have q1:=q0;clear q0))
   | (have _t:=q1;go_at_call 19;clear _t;go_loud (refine(zaP A c n q _ PP.out.ns HN.out (by have:=HN9.out;omega)).mono ?_;rintro e w2 ⟨rfl,b_⟩;rw[HR.out];have PP:=Hh (PP.out.next b_);clear c0 c1 c2 c3 b_;obtain⟨c0,c1,c2,c3⟩:=PP.out.cells;have q2:=q1;clear q1))
   | (have _t:=q2;go_at_call 20;clear _t;go_loud (refine(zaJ A c n q _ PP.out.ns HN.out).mono ?_;rintro e w3 ⟨rfl,b_⟩;rw[←HLV.out];have PP:=Hh (PP.out.next b_);clear c0 c1 c2 c3 b_;obtain⟨c0,c1,c2,c3⟩:=PP.out.cells;have q3:=q2;clear q2))
   | (have _t:=q3;go_at_call 37;clear _t;go_loud (refine(zbd A c n s q box nodes _ HS.out PP.out.ns HN.out HN9.out HM.out (fun _ _ _ _ g=>zea HX.out g)).mono ?_;rintro e x1 ⟨e1,T1,rfl,h_,b_⟩;have H1:=Hh h_;clear h_;have PP:=Hh (PP.out.next b_);clear c0 c1 c2 c3 b_;obtain⟨c0,c1,c2,c3⟩:=PP.out.cells;have q4:=q3;clear q3))
   | (have _t:=q4;go_at_call 38;clear _t;go_loud (refine(zbv A c n s q box nodes _ HS.out PP.out.ns HN.out HN9.out HM.out (fun _ _ _ _ g=>zea HX.out g)).mono ?_;rintro e x2 ⟨e2,T2,rfl,h_,b_⟩;obtain⟨rfl,rfl⟩:=H1.out.one h_;clear h_ H1;have PP:=Hh (PP.out.next b_);clear c0 c1 c2 c3 b_;obtain⟨c0,c1,c2,c3⟩:=PP.out.cells;have q5:=q4;clear q4)))
  go_ret;exact⟨rfl,PP.out.b⟩
 ·have t3:decide (box>80)=true:=decide_eq_true (by omega);have t4:decide (box≤1000)=false:=decide_eq_false (by omega);clear h hn hb hs h1 h2 hR hx hlv hv;go_enter Tryz.func8,Tryz.ntmps8;go_wp2_with (first
   | (have _t:=q0;go_at_call 28;clear _t;go_loud (refine(zaD _).mono ?_;rintro e w1 ⟨rfl,b_⟩;have PP:=Hh (PP.out.next b_);clear c0 c1 c2 c3 b_;obtain⟨c0,c1,c2,c3⟩:=PP.out.cells;have q1:=q0;clear q0))
   | (have _t:=q1;go_at_call 19;clear _t;go_loud (refine(zaP A c n q _ PP.out.ns HN.out (by have:=HN9.out;omega)).mono ?_;rintro e w2 ⟨rfl,b_⟩;rw[HR.out];have PP:=Hh (PP.out.next b_);clear c0 c1 c2 c3 b_;obtain⟨c0,c1,c2,c3⟩:=PP.out.cells;have q2:=q1;clear q1))
   | (have _t:=q2;go_at_call 20;clear _t;go_loud (refine(zaJ A c n q _ PP.out.ns HN.out).mono ?_;rintro e w3 ⟨rfl,b_⟩;rw[←HLV.out];have PP:=Hh (PP.out.next b_);clear c0 c1 c2 c3 b_;obtain⟨c0,c1,c2,c3⟩:=PP.out.cells;have q3:=q2;clear q2))
   | (have _t:=q3;go_at_call 37;clear _t;go_loud (refine(zbd A c n s q box nodes _ HS.out PP.out.ns HN.out HN9.out HM.out (fun _ _ _ _ g=>zea HX.out g)).mono ?_;rintro e x1 ⟨e1,T1,rfl,h_,b_⟩;have H1:=Hh h_;clear h_;have PP:=Hh (PP.out.next b_);clear c0 c1 c2 c3 b_;obtain⟨c0,c1,c2,c3⟩:=PP.out.cells;have q4:=q3;clear q3))
   | (have _t:=q4;go_at_call 38;clear _t;go_loud (refine(zbv A c n s q box nodes _ HS.out PP.out.ns HN.out HN9.out HM.out (fun _ _ _ _ g=>zea HX.out g)).mono ?_;rintro e x2 ⟨e2,T2,rfl,h_,b_⟩;obtain⟨rfl,rfl⟩:=H1.out.one h_;clear h_ H1;have PP:=Hh (PP.out.next b_);clear c0 c1 c2 c3 b_;obtain⟨c0,c1,c2,c3⟩:=PP.out.cells;have q5:=q4;clear q4)))
  go_ret;exact⟨rfl,PP.out.b⟩
theorem zuw (A:Option Addr)(c n:Nat)(s:ByteArray)(q:List Nd)(box nodes:Int)(w:World)(hs:s.size≤maxLen)(h:Ns w A c q)(hn:q.length=n)(hb : -9223372036854775808≤box∧box≤9223372036854775807)(h1:n≤200)(h2:s.size≤100)(hx:box≤80∨1000<box)(hR:zce q=true)(hv:200<zaB q)(hB1:∀X Y V H ok,BxV q n ok X Y V H→(decide (V≤1000)&&decide (H≤1000))=false) :
  Calls Tryz.prog 8 #[.agg #[.string s,.slice A n c],.agg #[.int .i64 box,.int .i64 nodes]] w fun e w'=>e=.returned (.bool true)∧Below w.heap.size w w':=by
 have hcn:=h.cap;rw[hn] at hcn;have PP:=Hh (Pa.start (n:=n) h s box nodes);obtain⟨c0,c1,c2,c3⟩:=PP.out.cells;have HN:=Hh hn;have HM:=Hh hb;have q0:True:=trivial;have t1:decide ((s.size:Int)>100)=false:=decide_eq_false (by omega);have t2:decide ((n:Int)>200)=false:=decide_eq_false (by omega);have HS:=Hh (show s.size≤1000 by omega);have HN9:=Hh (show n≤900000 by omega);have HX:=Hh hx;have HR:=Hh hR;obtain⟨lv,hlv⟩:∃v,v=zaB q:=⟨_,rfl⟩;have HLV:=Hh hlv;have t5:decide (lv>200)=true:=decide_eq_true (by omega);have HB1:=Hh hB1;rcases hx with hx|hx
 ·have t3:decide (box>80)=false:=decide_eq_false (by omega);clear h hn hb hs h1 h2 hR hx hlv hv hB1;go_enter Tryz.func8,Tryz.ntmps8;go_wp2_with (first
   | (have _t:=q0;go_at_call 28;clear _t;go_loud (refine(zaD _).mono ?_;rintro e w1 ⟨rfl,b_⟩;have PP:=Hh (PP.out.next b_);clear c0 c1 c2 c3 b_;obtain⟨c0,c1,c2,c3⟩:=PP.out.cells;have q1:=q0;clear q0))
   | (have _t:=q1;go_at_call 19;clear _t;go_loud (refine(zaP A c n q _ PP.out.ns HN.out (by have:=HN9.out;omega)).mono ?_;rintro e w2 ⟨rfl,b_⟩;rw[HR.out];have PP:=Hh (PP.out.next b_);clear c0 c1 c2 c3 b_;obtain⟨c0,c1,c2,c3⟩:=PP.out.cells;have q2:=q1;clear q1))
   | (have _t:=q2;go_at_call 20;clear _t;go_loud (refine(zaJ A c n q _ PP.out.ns HN.out).mono ?_;rintro e w3 ⟨rfl,b_⟩;rw[←HLV.out];have PP:=Hh (PP.out.next b_);clear c0 c1 c2 c3 b_;obtain⟨c0,c1,c2,c3⟩:=PP.out.cells;have q3:=q2;clear q2))
   | (have _t:=q3;go_at_call 36;clear _t;go_loud (refine(zaK n c A q 1000 _ PP.out.ns HN.out HN9.out (zaL HR.out) (by omega)).mono ?_;rintro e w4 ⟨X_,Y_,V_,H_,k_,rfl,bx_,b_⟩;rw[HB1.out _ _ _ _ _ bx_];clear bx_;have PP:=Hh (PP.out.next b_);clear c0 c1 c2 c3 b_;obtain⟨c0,c1,c2,c3⟩:=PP.out.cells;have q4:=q3;clear q3))
   | (have _t:=q4;go_at_call 37;clear _t;go_loud (refine(zbd A c n s q box nodes _ HS.out PP.out.ns HN.out HN9.out HM.out (fun _ _ _ _ g=>zea HX.out g)).mono ?_;rintro e x1 ⟨e1,T1,rfl,h_,b_⟩;have H1:=Hh h_;clear h_;have PP:=Hh (PP.out.next b_);clear c0 c1 c2 c3 b_;obtain⟨c0,c1,c2,c3⟩:=PP.out.cells;have q5:=q4;clear q4))
   | (have _t:=q5;go_at_call 38;clear _t;go_loud (refine(zbv A c n s q box nodes _ HS.out PP.out.ns HN.out HN9.out HM.out (fun _ _ _ _ g=>zea HX.out g)).mono ?_;rintro e x2 ⟨e2,T2,rfl,h_,b_⟩;obtain⟨rfl,rfl⟩:=H1.out.one h_;clear h_ H1;have PP:=Hh (PP.out.next b_);clear c0 c1 c2 c3 b_;obtain⟨c0,c1,c2,c3⟩:=PP.out.cells;have q6:=q5;clear q5)))
  go_ret;exact⟨rfl,PP.out.b⟩
 ·have t3:decide (box>80)=true:=decide_eq_true (by omega);have t4:decide (box≤1000)=false:=decide_eq_false (by omega);clear h hn hb hs h1 h2 hR hx hlv hv hB1;go_enter Tryz.func8,Tryz.ntmps8;go_wp2_with (first
   | (have _t:=q0;go_at_call 28;clear _t;go_loud (refine(zaD _).mono ?_;rintro e w1 ⟨rfl,b_⟩;have PP:=Hh (PP.out.next b_);clear c0 c1 c2 c3 b_;obtain⟨c0,c1,c2,c3⟩:=PP.out.cells;have q1:=q0;clear q0))
   | (have _t:=q1;go_at_call 19;clear _t;go_loud (refine(zaP A c n q _ PP.out.ns HN.out (by have:=HN9.out;omega)).mono ?_;rintro e w2 ⟨rfl,b_⟩;rw[HR.out];have PP:=Hh (PP.out.next b_);clear c0 c1 c2 c3 b_;obtain⟨c0,c1,c2,c3⟩:=PP.out.cells;have q2:=q1;clear q1))
   | (have _t:=q2;go_at_call 20;clear _t;go_loud (refine(zaJ A c n q _ PP.out.ns HN.out).mono ?_;rintro e w3 ⟨rfl,b_⟩;rw[←HLV.out];have PP:=Hh (PP.out.next b_);clear c0 c1 c2 c3 b_;obtain⟨c0,c1,c2,c3⟩:=PP.out.cells;have q3:=q2;clear q2))
   | (have _t:=q3;go_at_call 36;clear _t;go_loud (refine(zaK n c A q 1000 _ PP.out.ns HN.out HN9.out (zaL HR.out) (by omega)).mono ?_;rintro e w4 ⟨X_,Y_,V_,H_,k_,rfl,bx_,b_⟩;rw[HB1.out _ _ _ _ _ bx_];clear bx_;have PP:=Hh (PP.out.next b_);clear c0 c1 c2 c3 b_;obtain⟨c0,c1,c2,c3⟩:=PP.out.cells;have q4:=q3;clear q3))
   | (have _t:=q4;go_at_call 37;clear _t;go_loud (refine(zbd A c n s q box nodes _ HS.out PP.out.ns HN.out HN9.out HM.out (fun _ _ _ _ g=>zea HX.out g)).mono ?_;rintro e x1 ⟨e1,T1,rfl,h_,b_⟩;have H1:=Hh h_;clear h_;have PP:=Hh (PP.out.next b_);clear c0 c1 c2 c3 b_;obtain⟨c0,c1,c2,c3⟩:=PP.out.cells;have q5:=q4;clear q4))
   | (have _t:=q5;go_at_call 38;clear _t;go_loud (refine(zbv A c n s q box nodes _ HS.out PP.out.ns HN.out HN9.out HM.out (fun _ _ _ _ g=>zea HX.out g)).mono ?_;rintro e x2 ⟨e2,T2,rfl,h_,b_⟩;obtain⟨rfl,rfl⟩:=H1.out.one h_;clear h_ H1;have PP:=Hh (PP.out.next b_);clear c0 c1 c2 c3 b_;obtain⟨c0,c1,c2,c3⟩:=PP.out.cells;have q6:=q5;clear q5)))
  go_ret;exact⟨rfl,PP.out.b⟩
theorem zsl (A:Option Addr)(c n:Nat)(s:ByteArray)(q:List Nd)(box nodes:Int)(w:World)(hs:s.size≤maxLen)(h:Ns w A c q)(hn:q.length=n)(hb : -9223372036854775808≤box∧box≤9223372036854775807)(h1:n≤200)(h2:s.size≤100)(hx:box≤80∨1000<box)(hR:zce q=true)(hv:200<zaB q)(hB1:∀X Y V H ok,BxV q n ok X Y V H→(decide (V≤1000)&&decide (H≤1000))=true)(hB2:∀X Y V H ok,BxV q n ok X Y V H→(decide (V≤80)&&decide (H≤80))=true) :
  Calls Tryz.prog 8 #[.agg #[.string s,.slice A n c],.agg #[.int .i64 box,.int .i64 nodes]] w fun e w'=>e=.returned (.bool true)∧Below w.heap.size w w':=by
 have hcn:=h.cap;rw[hn] at hcn;have PP:=Hh (Pa.start (n:=n) h s box nodes);obtain⟨c0,c1,c2,c3⟩:=PP.out.cells;have HN:=Hh hn;have HM:=Hh hb;have q0:True:=trivial;have t1:decide ((s.size:Int)>100)=false:=decide_eq_false (by omega);have t2:decide ((n:Int)>200)=false:=decide_eq_false (by omega);have HS:=Hh (show s.size≤1000 by omega);have HN9:=Hh (show n≤900000 by omega);have HX:=Hh hx;have HR:=Hh hR;obtain⟨lv,hlv⟩:∃v,v=zaB q:=⟨_,rfl⟩;have HLV:=Hh hlv;have t5:decide (lv>200)=true:=decide_eq_true (by omega);have HB1:=Hh hB1;have HB2:=Hh hB2;rcases hx with hx|hx
 ·have t3:decide (box>80)=false:=decide_eq_false (by omega);clear h hn hb hs h1 h2 hR hx hlv hv hB1 hB2;go_enter Tryz.func8,Tryz.ntmps8;go_wp2_with (first
   | (have _t:=q0;go_at_call 28;clear _t;go_loud (refine(zaD _).mono ?_;rintro e w1 ⟨rfl,b_⟩;have PP:=Hh (PP.out.next b_);clear c0 c1 c2 c3 b_;obtain⟨c0,c1,c2,c3⟩:=PP.out.cells;have q1:=q0;clear q0))
   | (have _t:=q1;go_at_call 19;clear _t;go_loud (refine(zaP A c n q _ PP.out.ns HN.out (by have:=HN9.out;omega)).mono ?_;rintro e w2 ⟨rfl,b_⟩;rw[HR.out];have PP:=Hh (PP.out.next b_);clear c0 c1 c2 c3 b_;obtain⟨c0,c1,c2,c3⟩:=PP.out.cells;have q2:=q1;clear q1))
   | (have _t:=q2;go_at_call 20;clear _t;go_loud (refine(zaJ A c n q _ PP.out.ns HN.out).mono ?_;rintro e w3 ⟨rfl,b_⟩;rw[←HLV.out];have PP:=Hh (PP.out.next b_);clear c0 c1 c2 c3 b_;obtain⟨c0,c1,c2,c3⟩:=PP.out.cells;have q3:=q2;clear q2))
   | (have _t:=q3;go_at_call 36;clear _t;go_loud (refine(zaK n c A q 1000 _ PP.out.ns HN.out HN9.out (zaL HR.out) (by omega)).mono ?_;rintro e w4 ⟨X_,Y_,V_,H_,k_,rfl,bx_,b_⟩;rw[HB1.out _ _ _ _ _ bx_];clear bx_;have PP:=Hh (PP.out.next b_);clear c0 c1 c2 c3 b_;obtain⟨c0,c1,c2,c3⟩:=PP.out.cells;have q4:=q3;clear q3))
   | (have _t:=q4;go_at_call 36;clear _t;go_loud (refine(zaK n c A q 80 _ PP.out.ns HN.out HN9.out (zaL HR.out) (by omega)).mono ?_;rintro e w5 ⟨X_,Y_,V_,H_,k_,rfl,bx_,b_⟩;rw[HB2.out _ _ _ _ _ bx_];clear bx_;have PP:=Hh (PP.out.next b_);clear c0 c1 c2 c3 b_;obtain⟨c0,c1,c2,c3⟩:=PP.out.cells;have q5:=q4;clear q4))
   | (have _t:=q5;go_at_call 37;clear _t;go_loud (refine(zbd A c n s q box nodes _ HS.out PP.out.ns HN.out HN9.out HM.out (fun _ _ _ _ g=>zea HX.out g)).mono ?_;rintro e x1 ⟨e1,T1,rfl,h_,b_⟩;have H1:=Hh h_;clear h_;have PP:=Hh (PP.out.next b_);clear c0 c1 c2 c3 b_;obtain⟨c0,c1,c2,c3⟩:=PP.out.cells;have q6:=q5;clear q5))
   | (have _t:=q6;go_at_call 38;clear _t;go_loud (refine(zbv A c n s q box nodes _ HS.out PP.out.ns HN.out HN9.out HM.out (fun _ _ _ _ g=>zea HX.out g)).mono ?_;rintro e x2 ⟨e2,T2,rfl,h_,b_⟩;obtain⟨rfl,rfl⟩:=H1.out.one h_;clear h_ H1;have PP:=Hh (PP.out.next b_);clear c0 c1 c2 c3 b_;obtain⟨c0,c1,c2,c3⟩:=PP.out.cells;have q7:=q6;clear q6)))
  go_ret;exact⟨rfl,PP.out.b⟩
 ·have t3:decide (box>80)=true:=decide_eq_true (by omega);have t4:decide (box≤1000)=false:=decide_eq_false (by omega);clear h hn hb hs h1 h2 hR hx hlv hv hB1 hB2;go_enter Tryz.func8,Tryz.ntmps8;go_wp2_with (first
   | (have _t:=q0;go_at_call 28;clear _t;go_loud (refine(zaD _).mono ?_;rintro e w1 ⟨rfl,b_⟩;have PP:=Hh (PP.out.next b_);clear c0 c1 c2 c3 b_;obtain⟨c0,c1,c2,c3⟩:=PP.out.cells;have q1:=q0;clear q0))
   | (have _t:=q1;go_at_call 19;clear _t;go_loud (refine(zaP A c n q _ PP.out.ns HN.out (by have:=HN9.out;omega)).mono ?_;rintro e w2 ⟨rfl,b_⟩;rw[HR.out];have PP:=Hh (PP.out.next b_);clear c0 c1 c2 c3 b_;obtain⟨c0,c1,c2,c3⟩:=PP.out.cells;have q2:=q1;clear q1))
   | (have _t:=q2;go_at_call 20;clear _t;go_loud (refine(zaJ A c n q _ PP.out.ns HN.out).mono ?_;rintro e w3 ⟨rfl,b_⟩;rw[←HLV.out];have PP:=Hh (PP.out.next b_);clear c0 c1 c2 c3 b_;obtain⟨c0,c1,c2,c3⟩:=PP.out.cells;have q3:=q2;clear q2))
   | (have _t:=q3;go_at_call 36;clear _t;go_loud (refine(zaK n c A q 1000 _ PP.out.ns HN.out HN9.out (zaL HR.out) (by omega)).mono ?_;rintro e w4 ⟨X_,Y_,V_,H_,k_,rfl,bx_,b_⟩;rw[HB1.out _ _ _ _ _ bx_];clear bx_;have PP:=Hh (PP.out.next b_);clear c0 c1 c2 c3 b_;obtain⟨c0,c1,c2,c3⟩:=PP.out.cells;have q4:=q3;clear q3))
   | (have _t:=q4;go_at_call 36;clear _t;go_loud (refine(zaK n c A q 80 _ PP.out.ns HN.out HN9.out (zaL HR.out) (by omega)).mono ?_;rintro e w5 ⟨X_,Y_,V_,H_,k_,rfl,bx_,b_⟩;rw[HB2.out _ _ _ _ _ bx_];clear bx_;have PP:=Hh (PP.out.next b_);clear c0 c1 c2 c3 b_;obtain⟨c0,c1,c2,c3⟩:=PP.out.cells;have q5:=q4;clear q4))
   | (have _t:=q5;go_at_call 37;clear _t;go_loud (refine(zbd A c n s q box nodes _ HS.out PP.out.ns HN.out HN9.out HM.out (fun _ _ _ _ g=>zea HX.out g)).mono ?_;rintro e x1 ⟨e1,T1,rfl,h_,b_⟩;have H1:=Hh h_;clear h_;have PP:=Hh (PP.out.next b_);clear c0 c1 c2 c3 b_;obtain⟨c0,c1,c2,c3⟩:=PP.out.cells;have q6:=q5;clear q5))
   | (have _t:=q6;go_at_call 38;clear _t;go_loud (refine(zbv A c n s q box nodes _ HS.out PP.out.ns HN.out HN9.out HM.out (fun _ _ _ _ g=>zea HX.out g)).mono ?_;rintro e x2 ⟨e2,T2,rfl,h_,b_⟩;obtain⟨rfl,rfl⟩:=H1.out.one h_;clear h_ H1;have PP:=Hh (PP.out.next b_);clear c0 c1 c2 c3 b_;obtain⟨c0,c1,c2,c3⟩:=PP.out.cells;have q7:=q6;clear q6)))
  go_ret;exact⟨rfl,PP.out.b⟩
theorem zux (A:Option Addr)(c n:Nat)(s:ByteArray)(q:List Nd)(box nodes:Int)(w:World)(hs:s.size≤maxLen)(h:Ns w A c q)(hn:q.length=n)(hb : -9223372036854775808≤box∧box≤9223372036854775807)(h1:n≤200)(h2:s.size≤100)(hx:box≤80∨1000<box)(hR:zce q=true)(hv:200<zaB q)(hB1:∀X Y V H ok,BxV q n ok X Y V H→(decide (V≤1000)&&decide (H≤1000))=true)(hB2:∀X Y V H ok,BxV q n ok X Y V H→(decide (V≤80)&&decide (H≤80))=false) :
  Calls Tryz.prog 8 #[.agg #[.string s,.slice A n c],.agg #[.int .i64 box,.int .i64 nodes]] w fun e w'=>e=.returned (.bool true)∧Below w.heap.size w w':=by
 have hcn:=h.cap;rw[hn] at hcn;have PP:=Hh (Pa.start (n:=n) h s box nodes);obtain⟨c0,c1,c2,c3⟩:=PP.out.cells;have HN:=Hh hn;have HM:=Hh hb;have q0:True:=trivial;have t1:decide ((s.size:Int)>100)=false:=decide_eq_false (by omega);have t2:decide ((n:Int)>200)=false:=decide_eq_false (by omega);have HS:=Hh (show s.size≤1000 by omega);have HN9:=Hh (show n≤900000 by omega);have HX:=Hh hx;have HR:=Hh hR;obtain⟨lv,hlv⟩:∃v,v=zaB q:=⟨_,rfl⟩;have HLV:=Hh hlv;have t5:decide (lv>200)=true:=decide_eq_true (by omega);have HB1:=Hh hB1;have HB2:=Hh hB2;rcases hx with hx|hx
 ·have t3:decide (box>80)=false:=decide_eq_false (by omega);clear h hn hb hs h1 h2 hR hx hlv hv hB1 hB2;go_enter Tryz.func8,Tryz.ntmps8;go_wp2_with (first
   | (have _t:=q0;go_at_call 28;clear _t;go_loud (refine(zaD _).mono ?_;rintro e w1 ⟨rfl,b_⟩;have PP:=Hh (PP.out.next b_);clear c0 c1 c2 c3 b_;obtain⟨c0,c1,c2,c3⟩:=PP.out.cells;have q1:=q0;clear q0))
   | (have _t:=q1;go_at_call 19;clear _t;go_loud (refine(zaP A c n q _ PP.out.ns HN.out (by have:=HN9.out;omega)).mono ?_;rintro e w2 ⟨rfl,b_⟩;rw[HR.out];have PP:=Hh (PP.out.next b_);clear c0 c1 c2 c3 b_;obtain⟨c0,c1,c2,c3⟩:=PP.out.cells;have q2:=q1;clear q1))
   | (have _t:=q2;go_at_call 20;clear _t;go_loud (refine(zaJ A c n q _ PP.out.ns HN.out).mono ?_;rintro e w3 ⟨rfl,b_⟩;rw[←HLV.out];have PP:=Hh (PP.out.next b_);clear c0 c1 c2 c3 b_;obtain⟨c0,c1,c2,c3⟩:=PP.out.cells;have q3:=q2;clear q2))
   | (have _t:=q3;go_at_call 36;clear _t;go_loud (refine(zaK n c A q 1000 _ PP.out.ns HN.out HN9.out (zaL HR.out) (by omega)).mono ?_;rintro e w4 ⟨X_,Y_,V_,H_,k_,rfl,bx_,b_⟩;rw[HB1.out _ _ _ _ _ bx_];clear bx_;have PP:=Hh (PP.out.next b_);clear c0 c1 c2 c3 b_;obtain⟨c0,c1,c2,c3⟩:=PP.out.cells;have q4:=q3;clear q3))
   | (have _t:=q4;go_at_call 36;clear _t;go_loud (refine(zaK n c A q 80 _ PP.out.ns HN.out HN9.out (zaL HR.out) (by omega)).mono ?_;rintro e w5 ⟨X_,Y_,V_,H_,k_,rfl,bx_,b_⟩;rw[HB2.out _ _ _ _ _ bx_];clear bx_;have PP:=Hh (PP.out.next b_);clear c0 c1 c2 c3 b_;obtain⟨c0,c1,c2,c3⟩:=PP.out.cells;have q5:=q4;clear q4)))
  go_ret;exact⟨rfl,PP.out.b⟩
 ·have t3:decide (box>80)=true:=decide_eq_true (by omega);have t4:decide (box≤1000)=false:=decide_eq_false (by omega);clear h hn hb hs h1 h2 hR hx hlv hv hB1 hB2;go_enter Tryz.func8,Tryz.ntmps8;go_wp2_with (first
   | (have _t:=q0;go_at_call 28;clear _t;go_loud (refine(zaD _).mono ?_;rintro e w1 ⟨rfl,b_⟩;have PP:=Hh (PP.out.next b_);clear c0 c1 c2 c3 b_;obtain⟨c0,c1,c2,c3⟩:=PP.out.cells;have q1:=q0;clear q0))
   | (have _t:=q1;go_at_call 19;clear _t;go_loud (refine(zaP A c n q _ PP.out.ns HN.out (by have:=HN9.out;omega)).mono ?_;rintro e w2 ⟨rfl,b_⟩;rw[HR.out];have PP:=Hh (PP.out.next b_);clear c0 c1 c2 c3 b_;obtain⟨c0,c1,c2,c3⟩:=PP.out.cells;have q2:=q1;clear q1))
   | (have _t:=q2;go_at_call 20;clear _t;go_loud (refine(zaJ A c n q _ PP.out.ns HN.out).mono ?_;rintro e w3 ⟨rfl,b_⟩;rw[←HLV.out];have PP:=Hh (PP.out.next b_);clear c0 c1 c2 c3 b_;obtain⟨c0,c1,c2,c3⟩:=PP.out.cells;have q3:=q2;clear q2))
   | (have _t:=q3;go_at_call 36;clear _t;go_loud (refine(zaK n c A q 1000 _ PP.out.ns HN.out HN9.out (zaL HR.out) (by omega)).mono ?_;rintro e w4 ⟨X_,Y_,V_,H_,k_,rfl,bx_,b_⟩;rw[HB1.out _ _ _ _ _ bx_];clear bx_;have PP:=Hh (PP.out.next b_);clear c0 c1 c2 c3 b_;obtain⟨c0,c1,c2,c3⟩:=PP.out.cells;have q4:=q3;clear q3))
   | (have _t:=q4;go_at_call 36;clear _t;go_loud (refine(zaK n c A q 80 _ PP.out.ns HN.out HN9.out (zaL HR.out) (by omega)).mono ?_;rintro e w5 ⟨X_,Y_,V_,H_,k_,rfl,bx_,b_⟩;rw[HB2.out _ _ _ _ _ bx_];clear bx_;have PP:=Hh (PP.out.next b_);clear c0 c1 c2 c3 b_;obtain⟨c0,c1,c2,c3⟩:=PP.out.cells;have q5:=q4;clear q4)))
  go_ret;exact⟨rfl,PP.out.b⟩
theorem znL (A:Option Addr)(c:Nat)(s:ByteArray)(q:List Nd)(box nodes:Int)(w:World)(hs:s.size≤maxLen)(h:Ns w A c q)(hb : -9223372036854775808≤box∧box≤9223372036854775807) :
  Calls Tryz.prog 8 #[.agg #[.string s,.slice A q.length c],.agg #[.int .i64 box,.int .i64 nodes]] w fun e w'=>e=.returned (.bool true)∧Below w.heap.size w w':=by
 by_cases h2:s.size≤100
 ·by_cases h1:q.length≤200
  ·by_cases hx:80<box∧box≤1000
   ·exact zln A c _ s q box nodes w hs h rfl hb (.inr (.inr ⟨h2,h1,hx⟩))
   ·have hx2:box≤80∨1000<box:=by omega
    cases hR:zce q with
    | false=>exact zvD A c _ s q box nodes w hs h rfl hb h1 h2 hx2 hR
    | true =>
     by_cases hv:zaB q≤200
     ·exact zuv A c _ s q box nodes w hs h rfl hb h1 h2 hx2 hR hv
     ·obtain⟨b1,hB1⟩:=zsU q q.length 1000;obtain⟨b2,hB2⟩:=zsU q q.length 80;cases b1 with
      | false=>exact zuw A c _ s q box nodes w hs h rfl hb h1 h2 hx2 hR (by omega) hB1
      | true =>
       cases b2 with
       | false=>exact zux A c _ s q box nodes w hs h rfl hb h1 h2 hx2 hR (by omega) hB1 hB2
       | true=>exact zsl A c _ s q box nodes w hs h rfl hb h1 h2 hx2 hR (by omega) hB1 hB2
  ·exact zln A c _ s q box nodes w hs h rfl hb (.inr (.inl ⟨h2,by omega⟩))
 ·exact zln A c _ s q box nodes w hs h rfl hb (.inl (by omega))
end Go.Proofs.YtcippfaljoagaaaGreatDoor
