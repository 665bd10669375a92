import Derived.Test.YtikehjindobpkaaGreatGGdRo

set_option linter.unusedVariables false
set_option linter.unusedSimpArgs false
set_option maxRecDepth 100000
set_option maxHeartbeats 6400000
namespace Go.Proofs.YtikehjindobpkaaGreat
open Go.RowKit Num Nds
theorem GoI.far {q:List Nd}{n:Nat}{most er X Y:Int}{R:List (List UInt8)}(hg:zao q)(hn:q.length=n)(g:GoI q n most er X Y R):X+(zaC R:Int)≤p2 1330∧Y+(R.length:Int)≤p2 1330:=by
 subst hn;have m1:=zam 1330;rcases g with⟨-,-,rfl,rfl,rfl⟩|⟨-,ok,X',Y',V,H,b,h1⟩
 ·exact⟨by rw[zfg];omega,by show(0:Int)+(0:Nat)≤_;omega⟩
 ·obtain⟨hb,v0,h0⟩:=b.boxp hg;have:=b.lowG hg;rcases h1 with⟨-,-,rfl,rfl,rfl⟩|⟨-,-,rfl,rfl,rfl⟩
  ·exact⟨by rw[zfg];omega,by show(0:Int)+(0:Nat)≤_;omega⟩
  ·rw[zfD _ hb.flat,zcb];omega
theorem Gk.byte {l:List Cl}{q:List Nd}{n:Nat}{u:Gr}{X Y:Int}{wide high:Nat}(h:Gk l q n u X Y wide high){k i:Nat}(hk:k<high)(hi:i<(tat u.L k).length):getQ q (X+i) (Y+k)=(((tat u.L k)[i]).toNat:Int):=by
 have e1:=zlg (L:=u.L) (k:=k) (i:=i) (by rw[h.len];exact hk) hi;have hi2:=hi;rw[h.row hk,zbD] at hi2;rw[←e1,h.r,zhX (fun r c=>zfd h.hq.good.1 X Y r c) hk hi2];rfl
theorem Gk.cnt {l:List Cl}{q:List Nd}{n:Nat}{u:Gr}{X Y:Int}{wide high:Nat}(h:Gk l q n u X Y wide high):(picL (picM (den q q.length) X Y) X Y wide high).length=(zau l).length:=by
 rw[←h.list,h.wide_,h.len,h.r,zhY fun r c=>zfd h.hq.good.1 X Y r c]
theorem ztm (u v:Bw){X Y:Int}(w:World)(h:u.R w X)(k:v.R w Y)(hl:u.xs.length≤60000)(kl:v.xs.length≤60000) :
  Calls Tryz.prog 21 #[u.val,v.val] w (RetI (X+Y) w):=by
 have:=zav u.s v.s u.a v.a u.c v.c u.xs v.xs w h.us k.us hl kl;rw[h.v,k.v] at this;exact this
theorem ztn {n:Nat}(h:n≤40) : -p2 1330≤(n:Int)∧(n:Int)≤p2 1330:=by
 have h1:=zar (show 6≤1330 by omega);have h2:p2 6=64:=rfl;omega
structure Gc (w W:World)(A0:Option Addr)(c0:Nat)(l:List Cv)(gq gg:Nat)(A:Option Addr)(c n:Nat)(q:List Nd)(u:Gr)(X Y:Int):Prop where
 b:Below w.heap.size w W
 cs:Cs W A0 c0 l
 qk:W.heap[gq]?=some (.cells #[.slice A n c] 26)
 gk:W.heap[gg]?=some u.obj
 r:u.R W X Y
 ns:Ns W A c q
theorem Gc.next {w W W1:World}{A0:Option Addr}{c0:Nat}{l:List Cv}{gq gg:Nat}{A:Option Addr}{c n:Nat}{q:List Nd}{u:Gr}{X Y:Int}(h:Gc w W A0 c0 l gq gg A c n q u X Y)(k:Below W.heap.size W W1):Gc w W1 A0 c0 l gq gg A c n q u X Y :=
 ⟨h.b.trans (k.mono h.b.size),h.cs.below k,(k.block _ (zac h.qk)).trans h.qk,(k.block _ (zac h.gk)).trans h.gk,h.r.next k,h.ns.below k⟩
theorem Gc.str {w W:World}{A0:Option Addr}{c0:Nat}{l:List Cv}{gq gg:Nat}{A:Option Addr}{c n:Nat}{q:List Nd}{u:Gr}{X Y:Int}(h:Gc w W A0 c0 l gq gg A c n q u X Y){b o:Nat}(e:u.a=some ⟨b,o,none⟩){k:Nat}(hk:k<u.L.length):W.cell? ⟨b,o+k,none⟩=some (strV (tat u.L k)):=by
 obtain⟨b2,o2,e2,-,hc⟩:=h.r.t.at_ (by omega)
 rw[e] at e2;injection e2 with e2
 injection e2 with e3 e4
 subst e3;subst e4;exact hc k hk
theorem Gc.cells9 {w W:World}{A0:Option Addr}{c0:Nat}{l:List Cv}{gq gg:Nat}{A:Option Addr}{c n:Nat}{q:List Nd}{u:Gr}{X Y:Int}(h:Gc w W A0 c0 l gq gg A c n q u X Y){b o:Nat}(e:u.a=some ⟨b,o,none⟩){k:Nat}(hk:k<u.L.length){s:ByteArray}(hs:s=⟨(tat u.L k).toArray⟩) :
  W.cell? ⟨gq,0,none⟩=some (.slice A n c)∧W.cell? ⟨gg,0,none⟩=some (.bool u.x.s)∧W.cell? ⟨gg,1,none⟩=some (.slice u.x.a u.x.xs.length u.x.c)∧W.cell? ⟨gg,2,none⟩=some (.bool u.y.s)∧W.cell? ⟨gg,3,none⟩=some (.slice u.y.a u.y.xs.length u.y.c)∧W.cell? ⟨gg,4,none⟩=some (.slice (some ⟨b,o,none⟩) u.L.length u.c)∧W.cell? ⟨b,o+k,none⟩=some (.string s):=by
 obtain⟨c0,c1,c2,c3,c4⟩:=Gr.cells h.gk;refine⟨zaa h.qk,c0,c1,c2,c3,by rw[c4,e],?_⟩;rw[h.str e hk,hs];rfl
theorem zqH
  (A:Option Addr) (c n:Nat) (l:List Cv) (w:World) (h:Cs w A c l) (hn:l.length=n) (hm:mayB l 20=false) :
  Calls Tryz.prog 5 #[.slice A n c] w fun e w'=>e=.returned (.bool true)∧Below w.heap.size w w':=by
 have HC:=Hh h;have HN:=Hh hn;have HM:=Hh hm;have q0:True:=trivial;clear h hn hm;go_enter Tryz.func5,Tryz.ntmps5;go_wp2_with (first
  | (have _t:=q0;go_at_call 6;clear _t;go_loud (refine(zbm _).mono ?_;rintro e w1 ⟨rfl,b_⟩;have SS:=Hh ((Sx.start w).next b_);have HC:=Hh (HC.out.below b_);clear b_;have q1:=q0;clear q0))
  | (have _t:=q1;go_at_call 7;clear _t;go_loud (refine(zdL A c n 20 l _ HC.out HN.out (by omega)).mono ?_;rintro e w2 ⟨A3,c3,qn,q,ok,rfl,l_,n_,-,b_,ok_,-,-⟩;rw[HM.out] at ok_;subst ok_;have SS:=Hh (SS.out.next b_);clear l_ n_ b_;have q2:=q1;clear q1)))
 go_ret;exact⟨rfl,SS.out.b.alloc SS.out.b.size _⟩
theorem znP
  (A:Option Addr) (c n:Nat) (l:List Cv) (w:World) (h:Cs w A c l) (hn:l.length=n) (hm:mayB l 20=true) :
  Calls Tryz.prog 5 #[.slice A n c] w fun e w'=>e=.returned (.bool true)∧Below w.heap.size w w':=by
 have HC:=Hh h;have HN:=Hh hn;have HM:=Hh hm;have q0:True:=trivial;have HL:=Hh (ziW.1 hm).2.2;have HF:=Hh (show(zau (l.map Cv.cl)).length≤20 by
  have h1:=zgg (l.map Cv.cl);rw[List.length_map] at h1;have h2:=(zqv hm).1;omega)
 have HR:=Hh (zqv hm).2;have hn20:n≤20:=by
  have:=(zqv hm).1;omega
 clear h hn hm;go_enter Tryz.func5,Tryz.ntmps5;go_upto_if 25 with(first
  | (have _t:=q0;go_at_call 6;clear _t;go_loud (refine(zbm _).mono ?_;rintro e w1 ⟨rfl,b_⟩;have SS:=Hh ((Sx.start w).next b_);have HC:=Hh (HC.out.below b_);clear b_;have q1:=q0;clear q0))
  | (have _t:=q1;go_at_call 7;clear _t;go_loud (refine(zdL A c n 20 l _ HC.out HN.out (by omega)).mono ?_;rintro e w2 ⟨A3,c3,qn,q,ok,rfl,l_,n_,-,b_,ok_,-,hq_⟩;rw[HM.out] at ok_;subst ok_;have QQ:=Hh (hq_ rfl);have LQ:=Hh (show q.length=qn∧qn≤900000 from⟨l_,by have h1:=QQ.out.lenF.2;have h2:=HF.out;omega⟩);have HC:=Hh (HC.out.below (b_.trans ((Below.refl w2.heap.size w2).alloc (Nat.le_refl _) (.cells #[.slice A3 qn c3] 26) |>.mono b_.size)));have SS:=Hh (((SS.out.next b_).addQ n_).box (.cells #[.slice A3 qn c3] 26));clear l_ n_ b_ hq_;have b0:=zaa (SS.out.bx 0 _ _ rfl);have q2:=q1;clear q1))
  | (have _t:=q2;go_at_call 8;clear _t;go_loud (refine(zfC A3 c3 qn q 40 _ (SS.out.qs 0 _ _ _ rfl) LQ.out.1 LQ.out.2 QQ.out.good (by omega)).mono ?_;rintro e w3 ⟨u,X,Y,er,rfl,r_,-,-,b_,g_⟩;have GI:=Hh g_;have HC:=Hh (HC.out.below (b_.trans ((Below.refl w3.heap.size w3).alloc (Nat.le_refl _) u.obj |>.mono b_.size)));have GB:=Hh (GoI.back QQ.out.good LQ.out.1 g_);have lx:=zaA r_.x (GoI.hi QQ.out.good LQ.out.1 g_).1.1 (GoI.hi QQ.out.good LQ.out.1 g_).1.2;have ly:=zaA r_.y (GoI.hi QQ.out.good LQ.out.1 g_).2.1 (GoI.hi QQ.out.good LQ.out.1 g_).2.2;have SS:=Hh (((SS.out.next b_).addG r_).box u.obj);clear r_ b_ g_;clear b0;have b0:=zaa (SS.out.bx 0 _ _ rfl);obtain⟨g0,g1,g2,g3,g4⟩:=Gr.cells (SS.out.bx 1 _ _ rfl);have q3:=q2;clear q2)))
 rcases GB.out with⟨rfl,hR⟩|⟨rfl,wide,high,hw,hh,hb,hR⟩
 ·clear hR;go_wp2_with fail;go_ret;exact⟨rfl,SS.out.b⟩
 ·clear GB;have HK:=Hh (show Gk (l.map Cv.cl) q qn u X Y wide high from⟨QQ.out,LQ.out.1,GI.out,hw,hh,hb,hR,HF.out,HL.out⟩);clear hw hh hb hR;have hf:=GoI.far QQ.out.good LQ.out.1 GI.out;rw[HK.out.wide_] at hf;have hi:=GoI.hi QQ.out.good LQ.out.1 GI.out;have FAR:=Hh (And.intro hf hi);have hl9:u.L.length≤40:=by rw[HK.out.len];exact HK.out.h
  have w9:wide≤40:=HK.out.w;have GC:=Hh (show Gc w (w3.alloc u.obj) A c l w2.heap.size w3.heap.size A3 c3 qn q u X Y from⟨SS.out.b,HC.out,SS.out.bx 0 _ _ rfl,SS.out.bx 1 _ _ rfl,SS.out.gs 0 _ _ _ rfl,SS.out.qs 0 _ _ _ rfl⟩);have t4:decide ((u.L.length:Int)≤40)=true:=decide_eq_true (by omega);clear hf hi SS HC b0;rw[show((0:Int)!=0)=false from rfl];go_wp2_with fail;go_loopw [8,7] (fun z1 z2 wr=>∃k:Nat,z1=.int .i64 k∧z2=.int .i64 ((picL (picM (den q q.length) X Y) X Y wide k).length:Nat)∧k≤u.L.length∧Gc w wr A c l w2.heap.size w3.heap.size A3 c3 qn q u X Y) (fun z1 _ _=>u.L.length-(intOf z1).toNat)
  case atStart=>exact⟨0,rfl,rfl,Nat.zero_le _,GC.out⟩
  case round =>
   obtain⟨k,rfl,rfl,hk,hgc⟩:=hrel;clear GC g0 g1 g2 g3 g4;have GC:=Hh hgc;obtain⟨g0,g1,g2,g3,g4⟩:=Gr.cells GC.out.gk;have kw:IntKind.i64.wrap ((k:Int)+1)=(k:Int)+1:=IntWalk.i64_in _ (by omega);by_cases hlt:k<u.L.length
   ·obtain⟨b2,o2,hA2,-,-⟩:=hgc.r.t.at_ (by omega)
    rw[hA2] at g4;have HA:=Hh hA2;obtain⟨s,hs⟩:∃s:ByteArray,s=⟨(tat u.L k).toArray⟩:=⟨_,rfl⟩;have s0:=(hgc.cells9 hA2 hlt hs).2.2.2.2.2.2;have hsz:s.size=wide:=by rw[hs,zed,HK.out.row (by rw[←HK.out.len];exact hlt),zbD]
    have j0:(0:Int)≤(k:Int):=by omega
    have j1:(k:Int)<(u.L.length:Int):=by omega
    have j3:decide ((k:Int)<(u.L.length:Int))=true:=decide_eq_true j1;have HS:=Hh hs;have HLT:=Hh hlt;have hpl:=zdl (picM (den q q.length) X Y) X Y wide k;have hpl2:wide*k≤40*40:=Nat.mul_le_mul w9 (by omega);have HPL:=Hh (Nat.le_trans hpl hpl2);clear hs hgc hA2 hlt hpl hpl2;go_wp2_with fail;go_loopw [9,7] (fun z1 z2 wr=>∃i:Nat,z1=.int .i64 i∧z2=.int .i64 ((picL (picM (den q q.length) X Y) X Y wide k++rowC (picM (den q q.length) X Y) X Y k i).length:Nat)∧i≤wide∧Gc w wr A c l w2.heap.size w3.heap.size A3 c3 qn q u X Y) (fun z1 _ _=>wide-(intOf z1).toNat)
    case atStart=>exact⟨0,rfl,by rw[zhg,List.append_nil],Nat.zero_le _,GC.out⟩
    case round =>
     obtain⟨i,rfl,rfl,hi,hgc⟩:=hrel;clear GC g0 g1 g2 g3 g4 s0;have GC:=Hh hgc;obtain⟨b0,g0,g1,g2,g3,g4,s0⟩:=hgc.cells9 HA.out HLT.out HS.out;have iw:IntKind.i64.wrap ((i:Int)+1)=(i:Int)+1:=IntWalk.i64_in _ (by omega);by_cases hlt:i<wide
     ·have hlt':i<s.size:=by omega
      have hl2:i<(tat u.L k).length:=by rw[HK.out.row (by rw[←HK.out.len];exact HLT.out),zbD];exact hlt
      have HGT:=Hh (zqf hlt');have hby:=HK.out.byte (k:=k) (i:=i) (by rw[←HK.out.len];exact HLT.out) hl2;rw[←zqx HS.out hlt' hl2] at hby;obtain⟨bt,hbt⟩:∃b,b=(s[i]'hlt').toNat:=⟨_,rfl⟩;have HG:=Hh hby;have NI:=Hh (ztn (show i≤40 by omega));have NK:=Hh (ztn (show k≤40 by have:=HLT.out;omega));have NX:=Hh (show(-p2 1330≤X+(i:Int)∧X+(i:Int)≤p2 1330)∧(-p2 1330≤Y+(k:Int)∧Y+(k:Int)≤p2 1330) by
       have h1:=FAR.out;have h2:=HLT.out;omega)
      have HI:=Hh hlt;have i0:(0:Int)≤(i:Int):=by omega
      have x1:(i:Int)<(s.size:Int):=by omega
      have x3:decide ((i:Int)<(s.size:Int))=true:=decide_eq_true x1;have x4:decide ((i:Int)≤40)=true:=decide_eq_true (by omega);have u1:((((s[i]'hlt').toNat:Nat):Int)!=(((s[i]'hlt').toNat:Nat):Int))=false:=bne_self_eq_false _;have HPR:=Hh (show(picL (picM (den q q.length) X Y) X Y wide k++rowC (picM (den q q.length) X Y) X Y k i).length≤1640 by
       rw[List.length_append];have h1:=zfe (picM (den q q.length) X Y) X Y k i;have h2:=HPL.out;omega)
      have nw:IntKind.i64.wrap (((picL (picM (den q q.length) X Y) X Y wide k++rowC (picM (den q q.length) X Y) X Y k i).length:Int)+1)=((picL (picM (den q q.length) X Y) X Y wide k++rowC (picM (den q q.length) X Y) X Y k i).length:Int)+1:=IntWalk.i64_in _ (by have:=HPR.out;omega);have nw2:IntKind.i64.wrap (((picL (picM (den q q.length) X Y) X Y wide k).length:Int)+((rowC (picM (den q q.length) X Y) X Y k i).length:Int)+1)=((picL (picM (den q q.length) X Y) X Y wide k).length:Int)+((rowC (picM (den q q.length) X Y) X Y k i).length:Int)+1:=IntWalk.i64_in _ (by have:=HPR.out;rw[List.length_append] at this;omega);have HM9:=Hh (show(picM (den q q.length) X Y) k i=(((s[i]'hlt').toNat:Nat):Int) from hby);obtain⟨W0,hW0⟩:∃W0:World,W0=wr.drew:=⟨_,rfl⟩;have P0:=Hh (hgc.next (Below.drew' (Below.refl _ _)));rw[←hW0] at P0;clear hby hbt hgc hi hl2 GC;go_wp2_with fail;refine wp_region_noPanic ?_;refine wp_region_held (S:=fun w'=>w'.cell? ⟨w2.heap.size,0,none⟩=some (.slice A3 qn c3)∧w'.cell? ⟨w3.heap.size,0,none⟩=some (.bool u.x.s)∧w'.cell? ⟨w3.heap.size,1,none⟩=some (.slice u.x.a u.x.xs.length u.x.c)∧w'.cell? ⟨w3.heap.size,2,none⟩=some (.bool u.y.s)∧w'.cell? ⟨w3.heap.size,3,none⟩=some (.slice u.y.a u.y.xs.length u.y.c)∧w'.cell? ⟨w3.heap.size,4,none⟩=some (.slice (some ⟨b2,o2,none⟩) u.L.length u.c)∧w'.cell? ⟨b2,o2+k,none⟩=some (.string s)) (by kernel_rfl) ?_;change wpAnyH _ _ _ _ _ _ _ _ wr.drew;rw[←hW0];clear hW0 b0 g0 g1 g2 g3 g4 s0;have hS0:=P0.out.cells9 HA.out HLT.out HS.out;refine Tk1 (v:=?_) 0 hS0 ?_ ?_;rotate_left
      ·rintro w' ⟨_,_,_,_,_,_,_⟩;go_simp;first|done|with_reducible rfl|rfl
      simp only[Act.put,LA];refine Tk1 (v:=?_) 1 hS0 ?_ ?_;rotate_left
      ·rintro w' ⟨_,_,_,_,_,_,_⟩;go_simp;first|done|with_reducible rfl|rfl
      simp only[Act.put,LA];refine Tk1 (v:=?_) 2 hS0 ?_ ?_;rotate_left
      ·rintro w' ⟨_,_,_,_,_,_,_⟩;go_simp;first|done|with_reducible rfl|rfl
      simp only[Act.put,LA];refine Tk1 (v:=?_) 3 hS0 ?_ ?_;rotate_left
      ·rintro w' ⟨_,_,_,_,_,_,_⟩;go_simp;first|done|with_reducible rfl|rfl
      simp only[Act.put,LA];refine Tk1 (v:=?_) 4 hS0 ?_ ?_;rotate_left
      ·rintro w' ⟨_,_,_,_,_,_,_⟩;go_simp;first|done|with_reducible rfl|rfl
      simp only[Act.put,LA];refine Tk1 (v:=?_) 5 hS0 ?_ ?_;rotate_left
      ·rintro w' ⟨_,_,_,_,_,_,_⟩;go_simp;first|done|with_reducible rfl|rfl
      simp only[Act.put,LA];refine Tk1 (v:=?_) 6 hS0 ?_ ?_;rotate_left
      ·rintro w' ⟨_,_,_,_,_,_,_⟩;go_simp;first|done|with_reducible rfl|rfl
      simp only[Act.put,LA];refine Tk1 (v:=?_) 7 hS0 ?_ ?_;rotate_left
      ·rintro w' ⟨_,_,_,_,_,_,_⟩;go_simp;first|done|with_reducible rfl|rfl
      simp only[Act.put,LA];refine Tk1 (v:=?_) 8 hS0 ?_ ?_;rotate_left
      ·rintro w' ⟨_,_,_,_,_,_,_⟩;go_simp;first|done|with_reducible rfl|rfl
      simp only[Act.put,LA];refine Tk1 (v:=?_) 9 hS0 ?_ ?_;rotate_left
      ·rintro w' ⟨_,_,_,_,_,_,_⟩;go_simp;first|done|with_reducible rfl|rfl
      simp only[Act.put,LA];refine Tk1 (v:=?_) 10 hS0 ?_ ?_;rotate_left
      ·rintro w' ⟨_,_,_,_,_,_,_⟩;go_simp;first|done|with_reducible rfl|rfl
      simp only[Act.put,LA];refine Tk1 (v:=?_) 13 hS0 ?_ ?_;rotate_left
      ·rintro w' ⟨_,_,_,_,_,_,_⟩;go_simp;first|done|with_reducible rfl|rfl
      simp only[Act.put,LA];refine Tk1 (v:=?_) 14 hS0 ?_ ?_;rotate_left
      ·rintro w' ⟨_,_,_,_,_,_,_⟩;go_simp;first|done|with_reducible rfl|rfl
      simp only[Act.put,LA];refine Tk1 (v:=?_) 15 hS0 ?_ ?_;rotate_left
      ·rintro w' ⟨_,_,_,_,_,_,_⟩;go_simp;first|done|with_reducible rfl|rfl
      simp only[Act.put,LA];refine Rd1 11 fun K hK=>?_;go_simp;refine(zbn (i:Int) _ (by omega) (by omega)).mono ?_;rintro e v1 h_;obtain⟨a,rfl,ra,b_⟩:=zah h_;have RA:=Hh ra;have P1:=Hh (P0.out.next b_);clear ra h_;dsimp only;have hS1:=P1.out.cells9 HA.out HLT.out HS.out;refine hK.out _ _ hS1 (fun _=>?_);clear hK K b_;refine Rd1 12 fun K hK=>?_;go_simp;refine(ztm u.x a _ P1.out.r.x RA.out (by omega) (by have:=zaA RA.out NI.out.1 NI.out.2;omega)).mono ?_;rintro e v2 h_;obtain⟨x9,rfl,rx,b_⟩:=zah h_;have RX:=Hh rx;have P2:=Hh (P1.out.next b_);clear rx h_;dsimp only;have hS2:=P2.out.cells9 HA.out HLT.out HS.out;refine hK.out _ _ hS2 (fun _=>?_);clear hK K b_;refine Rd1 16 fun K hK=>?_;go_simp;refine(zbn (k:Int) _ (by omega) (by omega)).mono ?_;rintro e v3 h_;obtain⟨b,rfl,rb,b_⟩:=zah h_;have RB:=Hh rb;have RX:=Hh (RX.out.next b_);have P3:=Hh (P2.out.next b_);clear rb h_;dsimp only;have hS3:=P3.out.cells9 HA.out HLT.out HS.out;refine hK.out _ _ hS3 (fun _=>?_);clear hK K b_;refine Rd1 17 fun K hK=>?_;go_simp;refine(ztm u.y b _ P3.out.r.y RB.out (by omega) (by have:=zaA RB.out NK.out.1 NK.out.2;omega)).mono ?_;rintro e v4 h_;obtain⟨y9,rfl,ry,b_⟩:=zah h_;have RY:=Hh ry;have RX:=Hh (RX.out.next b_);have P4:=Hh (P3.out.next b_);clear ry h_;dsimp only;have hS4:=P4.out.cells9 HA.out HLT.out HS.out;refine hK.out _ _ hS4 (fun _=>?_);clear hK K b_;refine Rd1 18 fun K hK=>?_;go_simp;refine(zpK A3 c3 qn q x9 y9 (X+i) (Y+k) _ P4.out.ns LQ.out.1 LQ.out.2 QQ.out.good.1 RX.out RY.out (by have:=zaA RX.out NX.out.1.1 NX.out.1.2;omega) (by have:=zaA RY.out NX.out.2.1 NX.out.2.2;omega)).mono ?_;rintro e v5 ⟨rfl,b_⟩;rw[HG.out];have P5:=Hh (P4.out.next b_);dsimp only;have hS5:=P5.out.cells9 HA.out HLT.out HS.out;refine hK.out _ _ hS5 (fun _=>?_);clear hK K b_;refine Tk1 (v:=?_) 19 hS5 ?_ ?_;rotate_left
      ·rintro w' ⟨_,_,_,_,_,_,_⟩;go_simp;first|done|with_reducible rfl|rfl
      simp only[Act.put,LA];refine wpAnyH_done (by kernel_rfl) ?_ _;refine NoPanic.normal ?_;obtain⟨b0,g0,g1,g2,g3,g4,s0⟩:=P5.out.cells9 HA.out HLT.out HS.out;by_cases hz:(s[i]'hlt').toNat=0
      ·have nz:((((s[i]'hlt').toNat:Nat):Int)!=0)=false:=by rw[hz];rfl
       have HZ:=Hh (show(picM (den q q.length) X Y) k i=0 by rw[HM9.out,hz];rfl);clear hz;go_wp2_with fail;go_roundw
       case rel=>exact⟨i+1,by go_num,by(have h1:(rowC (picM (den q q.length) X Y) X Y k (i+1)).length=(rowC (picM (den q q.length) X Y) X Y k i).length:=by rw[zca,if_pos HZ.out,List.append_nil]);rw[List.length_append,h1];go_num,by have:=HI.out;omega,P5.out⟩
       case measure=>have:=HI.out;simp[intOf];omega
      ·have nz:((((s[i]'hlt').toNat:Nat):Int)!=0)=true:=by rw[bne_iff_ne];omega
       have HZ:=Hh (show ¬ (picM (den q q.length) X Y) k i=0 by rw[HM9.out];omega);clear hz;go_wp2_with fail;go_roundw
       case rel=>exact⟨i+1,by go_num,by(have h1:(rowC (picM (den q q.length) X Y) X Y k (i+1)).length=(rowC (picM (den q q.length) X Y) X Y k i).length+1:=by rw[zca,if_neg HZ.out,List.length_append];rfl);rw[List.length_append,h1];go_num,by have:=HI.out;omega,P5.out⟩
       case measure=>have:=HI.out;simp[intOf];omega
     ·have e:i=wide:=by omega
      subst e;have t9:decide ((i:Int)<(s.size:Int))=false:=decide_eq_false (by omega);have t10:decide (i<s.size)=false:=decide_eq_false (by omega);have t11:(i<s.size)=False:=eq_false (by omega);clear hgc hlt;go_wp2_with fail;go_roundw
      case rel=>exact⟨k+1,by go_num,by rw[zdI],by have:=HLT.out;omega,GC.out⟩
      case measure=>have:=HLT.out;simp[intOf];omega
   ·have e:k=u.L.length:=by omega
    have t9:decide ((k:Int)<(u.L.length:Int))=false:=decide_eq_false (by omega);have t10:decide (k<u.L.length)=false:=decide_eq_false hlt;have t11:(k<u.L.length)=False:=eq_false hlt;have HE:=Hh e;clear hgc hlt e;go_wp2_with (go_at_call 23;go_loud (refine(zhR A c n l _ GC.out.cs HN.out HR.out (by omega)).mono ?_;rintro e w5 ⟨v5,M5,rfl,ml5,in5,o5,b_⟩;obtain⟨A5,c5,hv5,cs5,-,-⟩:=o5.cs (fun u hu=>(GC.out.cs.below b_).1 u (in5 u hu));subst hv5;have cp5:=cs5.cap;have GC:=Hh (GC.out.next b_);have EQ:=Hh (show((picL (picM (den q q.length) X Y) X Y wide k).length:Int)=(M5.length:Int) from by rw[HE.out,HK.out.len,HK.out.cnt,←ml5,List.length_map]);have u9:(((picL (picM (den q q.length) X Y) X Y wide k).length:Int)==(M5.length:Int))=true:=by rw[EQ.out];exact beq_self_eq_true _));go_ret;exact⟨rfl,GC.out.b⟩
theorem znQ (A:Option Addr)(c:Nat)(l:List Cv)(w:World)(h:Cs w A c l) :
  Calls Tryz.prog 5 #[.slice A l.length c] w fun e w'=>e=.returned (.bool true)∧Below w.heap.size w w':=by
 cases hm:mayB l 20 with
 | false=>exact zqH A c _ l w h rfl hm
 | true=>exact znP A c _ l w h rfl hm
end Go.Proofs.YtikehjindobpkaaGreat
