import Derived.Test.YtfjajpnfjjdnpaaGreatDoorTFtQ
import Derived.Test.YtfjajpnfjjdnpaaGreatDoorLaidR
import Derived.Test.YtfjajpnfjjdnpaaGreatDoorTFtF

set_option linter.unusedVariables false
set_option linter.unusedSimpArgs false
set_option maxRecDepth 100000
set_option maxHeartbeats 6400000
namespace Go.Proofs.YtfjajpnfjjdnpaaGreatDoor
open Go.RowKit Num Nds Txt
def zct:ByteArray:=⟨#[66,51,47,83,50,51]⟩
def zbL:ByteArray:=⟨#[97]⟩
theorem znN {w:World}{g:Nat}(u:Cv)(h:w.heap[g]?=some (.cells #[.bool u.sx,.slice u.ax u.xs.length u.cx,.bool u.sy,.slice u.ay u.ys.length u.cy,.int .u8 u.st] 78))(hu:CvU w u):Cs w (some ⟨g,0,none⟩) 1 [u]:=by
 refine⟨fun x hx=>?_,Nat.le_refl _,by simp[maxLen],fun _=>⟨g,0,rfl,(Array.getElem?_eq_some_iff.1 h).1,fun i hi=>?_⟩⟩
 ·rw[List.mem_singleton.1 hx];exact hu
 ·match i,hi with
  | 0,_=>refine⟨?_,?_,?_,?_,?_⟩ <;> (rw[cell_of_row _ _ _ _ _ _ h];rfl)
def zdf:List Nd:=[⟨1,0,0,0,1⟩]
def znO:List Cl:=[⟨0,0,1⟩]
def zdg:List Nd:=[⟨1,3,0,0,0⟩,⟨1,2,0,0,0⟩,⟨2,0,0,1,2⟩]
def zgS:List Cl:=[⟨0,0,2⟩,⟨-2,0,3⟩]
def zfZ:List Nd:=[⟨1,1,0,0,0⟩,⟨2,1,0,0,0⟩,⟨3,2,2,0,0⟩]
theorem zis:zaN znO=zhr zdf:=by kernel_rfl
theorem zkt:OfL zdf zdf.length=zdf:=by kernel_rfl
theorem zit:zbI (zaN znO)=1:=by kernel_rfl
theorem zfm:zaa zdf=true:=by kernel_rfl
theorem ziu:zaN zgS=zhr zdg:=by kernel_rfl
theorem zku:OfL zdg zdg.length=zdg:=by kernel_rfl
theorem ziv:zbI (zaN zgS)=2:=by kernel_rfl
theorem zfn:zaa zdg=true:=by kernel_rfl
theorem zhG:zaa zfZ=true:=by kernel_rfl
theorem zkv {out:List Nd}(h:zcF (zaN znO) out):out=zdf:=by
 have k:=zfa zfm;rw[zkt,←zis] at k;exact zfM h k fun _ _=>rfl
theorem zkw {out:List Nd}(h:zcF (zaN zgS) out):out=zdg:=by
 have k:=zfa zfn;rw[zku,←ziu] at k;exact zfM h k fun _ _=>rfl
def zpr:List Cv:=[⟨false,none,0,[],false,none,0,[],1⟩]
theorem zqh:mayB zpr 1=true:=by
 refine zma.2 ⟨by kernel_rfl,by kernel_rfl,?_⟩;rw[show zaN (zpr.map Cv.cl)=zaN znO from rfl,zit];omega
def cv14 (a:Bw):List Cv:=[⟨false,none,0,[],false,none,0,[],2⟩,⟨a.s,a.a,a.c,a.xs,false,none,0,[],3⟩]
theorem zmx {W:World}{a:Bw}(h:a.R W (-2)):(cv14 a).map Cv.cl=zgS:=by
 show[(⟨ival false [],ival false [],_⟩:Cl),⟨ival a.s a.xs,ival false [],_⟩]=_;rw[h.v];rfl
theorem zqD {W:World}{a:Bw}(h:a.R W (-2))(hl:a.xs.length≤50):mayB (cv14 a) 2=true:=by
 refine zma.2 ⟨?_,?_,?_⟩
 ·unfold zbK;rw[Bool.or_eq_false_iff];refine⟨decide_eq_false (by show ¬ ((2:Int)<2);omega),List.any_eq_false.2 fun v hv=>?_⟩;unfold vast;rw[Bool.or_eq_true,decide_eq_true_iff,decide_eq_true_iff];simp only[cv14,List.mem_cons,List.not_mem_nil,or_false] at hv;rcases hv with rfl|rfl
  ·exact fun h=>by rcases h with h|h <;> exact absurd h (by show ¬ _;simp)
  ·exact fun h=>by
    rcases h with h|h
    ·exact absurd h (by show ¬ (50<a.xs.length);omega)
    ·exact absurd h (by show ¬ (50<([]:List Nat).length);simp)
 ·refine List.all_eq_true.2 fun v hv=>?_;simp only[cv14,List.mem_cons,List.not_mem_nil,or_false] at hv;rcases hv with rfl|rfl
  ·rfl
  ·unfold okC;rw[Bool.and_eq_true];exact⟨zhv h.cn,rfl⟩
 ·rw[zmx h,ziv];omega
def t14p:ByteArray:=⟨#[91,77,50,93,32,40,103,108,105,100,101,114,41,10,35,82,32,66,51,47,83,50,51,10,36,36,36,36,46,46,46,46,42,36,10]⟩
def t14q:ByteArray:=⟨#[91,77,50,93,32,40,103,108,105,100,101,114,41,10,35,82,32,97,10,49,32,51,32,48,32,48,32,48,10,49,32,50,32,48,32,48,32,48,10,50,32,48,32,48,32,49,32,50,10]⟩
theorem zps:zft zct.data.toList zdf=t14p.data.toList:=by kernel_rfl
theorem zpt:zft zbL.data.toList zdg=t14q.data.toList:=by kernel_rfl
theorem zqi {w w':World}{e:Ending}(h:zek zct zdf w e w'):e=.returned (.tuple #[.string t14p,.int .i64 0])∧Below w.heap.size w w':=by
 refine⟨h.1.trans ?_,h.2⟩;rw[if_pos (show mayP zct zdf=true by kernel_rfl),zps]
theorem zqj {w w':World}{e:Ending}(h:zek zbL zdg w e w'):e=.returned (.tuple #[.string t14q,.int .i64 0])∧Below w.heap.size w w':=by
 refine⟨h.1.trans ?_,h.2⟩;rw[if_pos (show mayP zbL zdg=true by kernel_rfl),zpt]
theorem zqk {w w':World}{e:Ending}(h:zek ⟨#[]⟩ [] w e w'):e=.returned (.tuple #[.string ⟨#[]⟩,.int .i64 1])∧Below w.heap.size w w':=by
 refine⟨h.1.trans ?_,h.2⟩;rw[if_neg (show ¬ mayP ⟨#[]⟩ []=true from fun e=>by(have:mayP ⟨#[]⟩ []=false:=by kernel_rfl);rw[this] at e;cases e)]
theorem zql:(zca zdf).length=1:=by kernel_rfl
theorem zqm:(zca zdg).length=3:=by kernel_rfl
theorem zqn:(zca []).length=0:=by kernel_rfl
theorem zmy:(⟨(zbc zfZ 3).toArray⟩:ByteArray)=⟨#[42,46,46,46,42,36]⟩:=by kernel_rfl
theorem zkx:kidB zfZ 4 3=true:=by kernel_rfl
structure P14 (w W:World)(A:Option Addr)(c:Nat)(A':Option Addr)(c':Nat)(g2 g4:Nat):Prop where
 b:Below w.heap.size w W
 np:Ns W A c zdf
 nq:Ns W A' c' zdg
 k2:W.heap[g2]?=some (.cells #[.string zct,.slice A 1 c] 30)
 k4:W.heap[g4]?=some (.cells #[.string zbL,.slice A' 3 c'] 30)
theorem P14.next {w W W':World}{A:Option Addr}{c:Nat}{A':Option Addr}{c' g2 g4:Nat}(h:P14 w W A c A' c' g2 g4)(k:Below W.heap.size W W'):P14 w W' A c A' c' g2 g4 :=
 ⟨h.b.trans (k.mono h.b.size),h.np.below k,h.nq.below k,(k.block _ (zep h.k2)).trans h.k2,(k.block _ (zep h.k4)).trans h.k4⟩
theorem P14.cells {w W:World}{A:Option Addr}{c:Nat}{A':Option Addr}{c' g2 g4:Nat}(h:P14 w W A c A' c' g2 g4) :
  W.cell? ⟨g2,0,none⟩=some (.string zct)∧W.cell? ⟨g2,1,none⟩=some (.slice A 1 c)∧W.cell? ⟨g4,0,none⟩=some (.string zbL)∧W.cell? ⟨g4,1,none⟩=some (.slice A' 3 c') :=
 ⟨(cell_of_row W _ 0 _ _ (0,0) h.k2).trans rfl,(cell_of_row W _ 1 _ _ (0,0) h.k2).trans rfl,(cell_of_row W _ 0 _ _ (0,0) h.k4).trans rfl,(cell_of_row W _ 1 _ _ (0,0) h.k4).trans rfl⟩
theorem P14.start {w w2 w3:World}{A:Option Addr}{c:Nat}{A':Option Addr}{c':Nat}(hb:Below w.heap.size w w2)(np:Ns w2 A c zdf)
  (b3:Below (w2.alloc (.cells #[.string zct,.slice A 1 c] 30)).heap.size (w2.alloc (.cells #[.string zct,.slice A 1 c] 30)) w3) (nq:Ns w3 A' c' zdg) :
  P14 w (w3.alloc (.cells #[.string zbL,.slice A' 3 c'] 30)) A c A' c' w2.heap.size w3.heap.size:=by
 have a2:=(Below.refl w2.heap.size w2).alloc (Nat.le_refl _) (.cells #[.string zct,.slice A 1 c] 30);have a3:=(Below.refl w3.heap.size w3).alloc (Nat.le_refl _) (.cells #[.string zbL,.slice A' 3 c'] 30);have x2:=heap_alloc_new w2 (.cells #[.string zct,.slice A 1 c] 30);have x3:=heap_alloc_new w3 (.cells #[.string zbL,.slice A' 3 c'] 30);have y2:=(b3.block _ (zep x2)).trans x2;have b23:=a2.trans (b3.mono a2.size);exact⟨hb.trans ((b23.trans (a3.mono b23.size)).mono hb.size),((np.below a2).below b3).below a3,nq.below a3,(a3.block _ (zep y2)).trans y2,x3⟩
theorem zmz (W:World):Ns (W.alloc (.cells #[.int .i64 1,.int .i64 1,.int .i64 0,.int .i64 0,.int .i64 0,.int .i64 2,.int .i64 1,.int .i64 0,.int .i64 0,.int .i64 0,.int .i64 3,.int .i64 2,.int .i64 2,.int .i64 0,.int .i64 0] 70)) (some ⟨W.heap.size,0,none⟩) 3 zfZ:=by
 have h:=heap_alloc_new W (.cells #[.int .i64 1,.int .i64 1,.int .i64 0,.int .i64 0,.int .i64 0,.int .i64 2,.int .i64 1,.int .i64 0,.int .i64 0,.int .i64 0,.int .i64 3,.int .i64 2,.int .i64 2,.int .i64 0,.int .i64 0] 70);refine⟨fun x hx=>?_,Nat.le_refl _,by simp[maxLen],fun _=>⟨_,0,rfl,(Array.getElem?_eq_some_iff.1 h).1,fun i hi=>?_⟩⟩
 ·simp only[zfZ,List.mem_cons,List.not_mem_nil,or_false] at hx;rcases hx with rfl|rfl|rfl <;> (simp only[Nd.wf,in64];omega)
 ·match i,hi with
  | 0,_=>refine⟨?_,?_,?_,?_,?_⟩ <;> (rw[cell_of_row _ _ _ _ _ _ h];rfl)
  | 1,_=>refine⟨?_,?_,?_,?_,?_⟩ <;> (rw[cell_of_row _ _ _ _ _ _ h];rfl)
  | 2,_=>refine⟨?_,?_,?_,?_,?_⟩ <;> (rw[cell_of_row _ _ _ _ _ _ h];rfl)
theorem zau (w:World)(T:TabP w):Calls Tryz.prog 37 #[] w fun e w'=>e=.returned (.bool true)∧Below w.heap.size w w':=by
 have q0:True:=trivial;have HT:=Hh T;clear T;go_enter Tryz.func37,Tryz.ntmps37;rw[show(⟨#[66,51,47,83,50,51]⟩:ByteArray)=zct from rfl,show(⟨#[97]⟩:ByteArray)=zbL from rfl,show(⟨#[91,77,50,93,32,40,103,108,105,100,101,114,41,10,35,82,32,66,51,47,83,50,51,10,36,36,36,36,46,46,46,46,42,36,10]⟩:ByteArray)=t14p from rfl,show(⟨#[91,77,50,93,32,40,103,108,105,100,101,114,41,10,35,82,32,97,10,49,32,51,32,48,32,48,32,48,10,49,32,50,32,48,32,48,32,48,10,50,32,48,32,48,32,49,32,50,10]⟩:ByteArray)=t14q from rfl];go_wp2_with (first
  | (have _t:=q0;go_at_call 13;clear _t;go_loud (have hal:=(Below.refl w.heap.size w).alloc (Nat.le_refl _) (.cells #[.bool false,.slice none 0 0,.bool false,.slice none 0 0,.int .u8 1] 78);have hn1:=heap_alloc_new w (.cells #[.bool false,.slice none 0 0,.bool false,.slice none 0 0,.int .u8 1] 78);refine(zjK (some ⟨w.heap.size,0,none⟩) 1 1 1 zct zpr _ (by decide) (znN _ hn1 ⟨Us.nil _,Us.nil _,by show 1≤255;omega⟩) rfl (by omega)).mono ?_;rintro e w2 ⟨A5,c5,qn,q,ok,rfl,l5,n5,a5,b5,hok,-,hqo⟩;rw[zqh] at hok;subst hok;have e5:q=zdf:=zkv (hqo rfl);subst e5;have e6:qn=1:=l5.symm;subst e6;have hc5:=n5.cap;have N5:=Hh n5;have A5n:=Hh a5;have B2:=Hh (hal.trans (b5.mono hal.size));clear l5 n5 a5 b5 hqo hal hn1;have q1:=q0;clear q0))
  | (have _t:=q1;go_at_call 48;clear _t;go_loud (refine(zev (-2) _ (by omega) (by omega)).mono ?_;rintro e w3 h_;obtain⟨a,rfl,r_,b_⟩:=zoX h_;have la:=zpQ r_ (zpX (by omega)).1 (zpX (by omega)).2;have hca:=r_.us.cap;have Ra:=Hh r_;have B3:=Hh b_;clear h_ r_ b_;have q2:=q1;clear q1))
  | (have _t:=q2;go_at_call 13;clear _t;go_loud (have hal:=(Below.refl w3.heap.size w3).alloc (Nat.le_refl _) (.cells #[.bool false,.slice none 0 0,.bool false,.slice none 0 0,.int .u8 2,.bool a.s,.slice a.a a.xs.length a.c,.bool false,.slice none 0 0,.int .u8 3] 78);have hn1:=heap_alloc_new w3 (.cells #[.bool false,.slice none 0 0,.bool false,.slice none 0 0,.int .u8 2,.bool a.s,.slice a.a a.xs.length a.c,.bool false,.slice none 0 0,.int .u8 3] 78);refine(zjK (some ⟨w3.heap.size,0,none⟩) 2 2 2 zbL (cv14 a) _ (by decide) (zpd _ _ hn1 ⟨Us.nil _,Us.nil _,by show 2≤255;omega⟩ ⟨Ra.out.us.below hal,Us.nil _,by show 3≤255;omega⟩) rfl (by omega)).mono ?_;rintro e w4 ⟨A6,c6,qn,q,ok,rfl,l6,n6,a6,b6,hok,-,hqo⟩;have hm:=zqD Ra.out la;rw[hm] at hok;subst hok;have e5:q=zdg:=zkw (by have:=hqo rfl;rwa [zmx Ra.out] at this);subst e5;have e6:qn=3:=l6.symm;subst e6;have hc6:=n6.cap;have A6n:=Hh a6;have PP:=Hh (P14.start B2.out N5.out (B3.out.trans ((hal.trans (b6.mono hal.size)).mono B3.out.size)) n6);obtain⟨c0,c1,c2,c3⟩:=PP.out.cells;clear hm l6 n6 a6 b6 hqo hal hn1;have q3:=q2;clear q2))
  | (have _t:=q3;go_at_call 38;clear _t;go_loud (refine(zdQ A5 c5 1 zct zdf _ (by decide) PP.out.np rfl (by omega) A5n.out (zal HT.out PP.out.b)).mono ?_;rintro e w5 h_;obtain⟨rfl,b_⟩:=zqi h_;clear h_;have PP:=Hh (PP.out.next b_);clear c0 c1 c2 c3 b_;obtain⟨c0,c1,c2,c3⟩:=PP.out.cells;have q4:=q3;clear q3))
  | (have _t:=q4;go_at_call 38;clear _t;go_loud (refine(zdQ A6 c6 3 zbL zdg _ (by decide) PP.out.nq rfl (by omega) A6n.out (zal HT.out PP.out.b)).mono ?_;rintro e w6 h_;obtain⟨rfl,b_⟩:=zqj h_;clear h_;have PP:=Hh (PP.out.next b_);clear c0 c1 c2 c3 b_;obtain⟨c0,c1,c2,c3⟩:=PP.out.cells;have q5:=q4;clear q4))
  | (have _t:=q5;go_at_call 38;clear _t;go_loud (refine(zdQ none 0 0 ⟨#[]⟩ [] _ (by decide) (zfJ _) rfl (by omega) (fun _=>rfl) (zal HT.out PP.out.b)).mono ?_;rintro e w7 h_;obtain⟨rfl,b_⟩:=zqk h_;clear h_;have PP:=Hh (PP.out.next b_);clear c0 c1 c2 c3 b_;obtain⟨c0,c1,c2,c3⟩:=PP.out.cells;have q6:=q5;clear q5))
  | (have _t:=q6;go_at_call 40;clear _t;go_loud (refine(zdP A5 c5 1 zdf _ PP.out.np rfl (by omega) zfm A5n.out).mono ?_;rintro e w8 ⟨rfl,b_⟩;rw[zql];have PP:=Hh (PP.out.next b_);clear c0 c1 c2 c3 b_;obtain⟨c0,c1,c2,c3⟩:=PP.out.cells;have q7:=q6;clear q6))
  | (have _t:=q7;go_at_call 40;clear _t;go_loud (refine(zdP A6 c6 3 zdg _ PP.out.nq rfl (by omega) zfn A6n.out).mono ?_;rintro e w9 ⟨rfl,b_⟩;rw[zqm];have PP:=Hh (PP.out.next b_);clear c0 c1 c2 c3 b_;obtain⟨c0,c1,c2,c3⟩:=PP.out.cells;have q8:=q7;clear q7))
  | (have _t:=q8;go_at_call 40;clear _t;go_loud (refine(zdP none 0 0 [] _ (zfJ _) rfl (by omega) rfl (fun _=>rfl)).mono ?_;rintro e w10 ⟨rfl,b_⟩;rw[zqn];have PP:=Hh (PP.out.next b_);clear c0 c1 c2 c3 b_;obtain⟨c0,c1,c2,c3⟩:=PP.out.cells;have q9:=q8;clear q8))
  | (have _t:=q9;go_at_call 43;clear _t;go_loud (have hal:=(Below.refl w10.heap.size w10).alloc (Nat.le_refl _) (.cells #[.int .i64 1,.int .i64 1,.int .i64 0,.int .i64 0,.int .i64 0,.int .i64 2,.int .i64 1,.int .i64 0,.int .i64 0,.int .i64 0,.int .i64 3,.int .i64 2,.int .i64 2,.int .i64 0,.int .i64 0] 70);refine(zdM (some ⟨w10.heap.size,0,none⟩) 3 3 zfZ 3 _ (zmz w10) rfl (by omega) zhG zkx).mono ?_;rintro e w11 ⟨rfl,b_⟩;rw[zmy];have PP:=Hh (PP.out.next (hal.trans (b_.mono hal.size)));clear c0 c1 c2 c3 b_ hal;have q10:=q9;clear q9)))
 go_ret;exact⟨rfl,PP.out.b⟩
end Go.Proofs.YtfjajpnfjjdnpaaGreatDoor
