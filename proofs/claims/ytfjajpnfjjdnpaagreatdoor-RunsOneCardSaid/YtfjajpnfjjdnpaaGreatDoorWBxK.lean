import Derived.Test.YtfjajpnfjjdnpaaGreatDoorWLkRp
import Derived.Test.YtfjajpnfjjdnpaaGreatDoorWLkPu
import Derived.Lib.SlicesCompact
import Derived.Shelf.Slices.In.SortAlone
import Derived.Shelf.Slices.In.SortNone
import Derived.Shelf.Slices.CompactI
import Derived.Sort.EveryDepth
import Derived.Sort.OwnSortedInts
import Derived.Lib.OwnBridge
import Derived.Test.YtfjajpnfjjdnpaaGreatDoorLaidB

set_option linter.unusedVariables false
set_option linter.unusedSimpArgs false
set_option maxRecDepth 100000
set_option maxHeartbeats 6400000
namespace Go.Proofs.YtfjajpnfjjdnpaaGreatDoor
open Go.RowKit Num Nds
structure Ag (w W:World)(L:List (Option Addr × Nat × List Nd))(M:List (Nat × Value))(K:List (Nat × Bw × Int)):Prop where
 al:Al w W L M
 kb:∀t∈K,t.2.1.B W t.1 t.2.2
theorem Ag.start (w:World):Ag w w [] [] []:=⟨Al.start w,by simp⟩
theorem Ag.step {w W W':World}{L:List (Option Addr × Nat × List Nd)}{M:List (Nat × Value)}{K:List (Nat × Bw × Int)}(s:Ag w W L M K)(b:Below W.heap.size W W'):Ag w W' L M K :=
 ⟨s.al.step b,fun t ht=>(s.kb t ht).next b⟩
theorem Ag.alloc {w W:World}{L:List (Option Addr × Nat × List Nd)}{M:List (Nat × Value)}{K:List (Nat × Bw × Int)}(s:Ag w W L M K)(o:Obj):Ag w (W.alloc o) L M K:=s.step ((Below.refl _ W).alloc (Nat.le_refl _) o)
theorem Ag.addN {w W:World}{L:List (Option Addr × Nat × List Nd)}{M:List (Nat × Value)}{K:List (Nat × Bw × Int)}(s:Ag w W L M K){A:Option Addr}{c:Nat}{l:List Nd}(h:Ns W A c l):Ag w W ((A,c,l) :: L) M K:=⟨s.al.addN h,s.kb⟩
theorem Ag.addB {w W:World}{L:List (Option Addr × Nat × List Nd)}{M:List (Nat × Value)}{K:List (Nat × Bw × Int)}(s:Ag w W L M K)(v:Value):Ag w (W.alloc (.cells #[v] 28)) L ((W.heap.size,v) :: M) K:=⟨s.al.addB v,(s.alloc _).kb⟩
theorem Ag.addK {w W:World}{L:List (Option Addr × Nat × List Nd)}{M:List (Nat × Value)}{K:List (Nat × Bw × Int)}(s:Ag w W L M K){u:Bw}{X:Int}(h:u.R W X):Ag w (W.alloc (.cells #[.bool u.s,.slice u.a u.xs.length u.c] 48)) L M ((W.heap.size,u,X) :: K) :=
 ⟨(s.alloc _).al,fun t ht=>by
  rcases List.mem_cons.1 ht with rfl|ht
  ·exact h.box
  ·exact(s.alloc _).kb t ht⟩
theorem Ag.getN {w W:World}{L:List (Option Addr × Nat × List Nd)}{M:List (Nat × Value)}{K:List (Nat × Bw × Int)}(s:Ag w W L M K){A:Option Addr}{c:Nat}{l:List Nd}(h:(A,c,l)∈L):Ns W A c l:=s.al.getN h
theorem Ag.getB {w W:World}{L:List (Option Addr × Nat × List Nd)}{M:List (Nat × Value)}{K:List (Nat × Bw × Int)}(s:Ag w W L M K){g:Nat}{v:Value}(h:(g,v)∈M):W.cell? ⟨g,0,none⟩=some v:=s.al.getB h
theorem Ag.getK {w W:World}{L:List (Option Addr × Nat × List Nd)}{M:List (Nat × Value)}{K:List (Nat × Bw × Int)}(s:Ag w W L M K){g:Nat}{u:Bw}{X:Int}(h:(g,u,X)∈K):u.B W g X:=s.kb _ h
theorem Ag.b {w W:World}{L:List (Option Addr × Nat × List Nd)}{M:List (Nat × Value)}{K:List (Nat × Bw × Int)}(s:Ag w W L M K):Below w.heap.size w W:=s.al.sn.1
def bitK (ax i:Nat):Nat:=if ax=0 then i%2 else i / 2
def co (ax:Nat)(x y:Int):Int:=if ax=0 then x else y
def ds (ax e n:Nat)(x y:Int):Int:=if e=0 then co ax x y else p2 n-1-co ax x y
def pen (ax e m i:Nat):Int:=if bitK ax i=e then 0 else p2 m
theorem zhR {ax e m i:Nat}(hi:i<4)(he:e≤1)(x y:Int):ds ax e (m+1) (x+offX m i) (y+offY m i)=ds ax e m x y+pen ax e m i:=by
 have hp:=zau m;unfold ds co pen bitK offX offY;have h4:i=0∨i=1∨i=2∨i=3:=by omega
 have h2:e=0∨e=1:=by omega
 by_cases ha:ax=0
 ·rcases h4 with rfl|rfl|rfl|rfl <;> rcases h2 with rfl|rfl <;> simp[ha] <;> omega
 ·rcases h4 with rfl|rfl|rfl|rfl <;> rcases h2 with rfl|rfl <;> simp[ha] <;> omega
theorem zsl {ax e n:Nat}{t:Tr}{x y:Int}(hw:wfT (n:Int) t)(h:zae t x y≠0):0≤ds ax e n x y∧ds ax e n x y<p2 n:=by
 have:=zan t n x y hw h;unfold ds co;split <;> split <;> omega
theorem zgO {m:Nat}{t:Tr}{x y:Int}(hw:wfT ((m:Int)+1) t)(h:zae t x y≠0):∃i,i<4∧zae (t.q i) (x-offX m i) (y-offY m i)≠0:=by
 cases t with
 | e=>exact absurd rfl h
 | s k=>exact absurd hw.1 (by omega)
 | n v a b c d =>
  have hw':wfT (((m+1:Nat)):Int) (.n v a b c d):=hw;obtain⟨m',hm,rfl,ha,hb,hc,hd,_⟩:=wf_n hw';have:m=m':=by omega
  subst this;rw[zcf ha hb hc hd] at h;by_cases h0:zae a x y=0
  ·by_cases h1:zae b (x-p2 m) y=0
   ·by_cases h2:zae c x (y-p2 m)=0
    ·refine⟨3,by omega,?_⟩;show zae d (x-p2 m) (y-p2 m)≠0;omega
    ·refine⟨2,by omega,?_⟩;show zae c (x-0) (y-p2 m)≠0
     rwa [Int.sub_zero]
   ·refine⟨1,by omega,?_⟩;show zae b (x-p2 m) (y-0)≠0
    rwa [Int.sub_zero]
  ·refine⟨0,by omega,?_⟩;show zae a (x-0) (y-0)≠0
   rwa [Int.sub_zero,Int.sub_zero]
def EdS (ax e n:Nat)(O:Tr→Prop)(D:Int):Prop :=
 (∀t,O t→∀x y,zae t x y≠0→D≤ds ax e n x y)∧∃t x y,O t∧zae t x y≠0∧D=ds ax e n x y
theorem EdS.one {ax e n:Nat}{O:Tr→Prop}{D F:Int}(h:EdS ax e n O D)(k:EdS ax e n O F):D=F:=by
 obtain⟨t,x,y,h1,h2,h3⟩:=h.2;obtain⟨u,z,v,k1,k2,k3⟩:=k.2;have a:=h.1 u k1 z v k2;have b:=k.1 t h1 x y h2;omega
theorem EdS.in_ {ax e n:Nat}{O:Tr→Prop}{D:Int}(h:EdS ax e n O D)(hw:∀t,O t→wfT (n:Int) t):0≤D∧D<p2 n:=by
 obtain⟨t,x,y,h1,h2,h3⟩:=h.2;have:=zsl (ax:=ax) (e:=e) (hw t h1) h2;omega
theorem EdS.of {ax e n:Nat}{O M:Tr→Prop}{D:Int}(h:EdS ax e n O D)(k:∀t,O t↔M t):EdS ax e n M D :=
 ⟨fun t ht=>h.1 t ((k t).2 ht),by
  obtain⟨t,x,y,h1,h2⟩:=h.2;exact⟨t,x,y,(k t).1 h1,h2⟩⟩
def kidS (ax e:Nat)(O:Tr→Prop)(u:Tr):Prop:=∃t i,O t∧i<4∧bitK ax i=e∧u=t.q i∧u≠.e
theorem zla {ax e m:Nat}{O:Tr→Prop}(hw:∀t,O t→wfT ((m:Int)+1) t):∀t,kidS ax e O t→wfT (m:Int) t:=by
 rintro u ⟨t,i,h1,-,-,rfl,-⟩;have h2:=wf_q (hw t h1) i
 rwa [show((m:Int)+1-1)=(m:Int) by omega] at h2
theorem zpK (ax i:Nat)(hi:i<4):bitK ax i≤1:=by
 unfold bitK;split <;> omega
theorem zbd {t:Tr}{x y:Int}(h:zae t x y≠0):t≠.e:=fun e=>h (by rw[e];rfl)
theorem zuq {ax e m:Nat}{O:Tr→Prop}{D:Int}(hw:∀t,O t→wfT ((m:Int)+1) t)(he:e≤1)(h:EdS ax e m (kidS ax e O) D):EdS ax e (m+1) O D:=by
 have hr:=h.in_ (zla hw);refine⟨fun t ht x y hc=>?_,?_⟩
 ·obtain⟨i,hi,hk⟩:=zgO (hw t ht) hc;have e1:=zhR (ax:=ax) (m:=m) hi he (x-offX m i) (y-offY m i);rw[Int.sub_add_cancel,Int.sub_add_cancel] at e1;rw[e1];unfold pen;split
  ·rename_i hb;have:=h.1 (t.q i) ⟨t,i,ht,hi,hb,rfl,zbd hk⟩ _ _ hk;omega
  ·have h2:=wf_q (hw t ht) i;rw[show((m:Int)+1-1)=(m:Int) by omega] at h2;have:=zsl (ax:=ax) (e:=e) h2 hk;omega
 ·obtain⟨u,x,y,⟨t,i,h1,hi,hb,rfl,-⟩,h2,h3⟩:=h.2;refine⟨t,x+offX m i,y+offY m i,h1,?_,?_⟩
  ·rw[zew (hw t h1) hi h2];exact h2
  ·rw[zhR hi he,h3];unfold pen;rw[if_pos hb,Int.add_zero]
theorem zvA {ax e f m:Nat}{O:Tr→Prop}{D:Int}(hw:∀t,O t→wfT ((m:Int)+1) t)(he:e≤1)(hf:f=1-e)(hno:∀u,¬ kidS ax e O u)(h:EdS ax e m (kidS ax f O) D):EdS ax e (m+1) O (D+p2 m):=by
 refine⟨fun t ht x y hc=>?_,?_⟩
 ·obtain⟨i,hi,hk⟩:=zgO (hw t ht) hc;have e1:=zhR (ax:=ax) (m:=m) hi he (x-offX m i) (y-offY m i);rw[Int.sub_add_cancel,Int.sub_add_cancel] at e1;rw[e1];unfold pen;split
  ·rename_i hb;exact absurd ⟨t,i,ht,hi,hb,rfl,zbd hk⟩ (hno (t.q i))
  ·rename_i hb;have h9:=zpK ax i hi;have:=h.1 (t.q i) ⟨t,i,ht,hi,by omega,rfl,zbd hk⟩ _ _ hk;omega
 ·obtain⟨u,x,y,⟨t,i,h1,hi,hb,rfl,-⟩,h2,h3⟩:=h.2;refine⟨t,x+offX m i,y+offY m i,h1,?_,?_⟩
  ·rw[zew (hw t h1) hi h2];exact h2
  ·rw[zhR hi he,h3];unfold pen;rw[if_neg (by omega)]
theorem zpL {ax e:Nat}{O:Tr→Prop}(hw:∀t,O t→wfT ((0:Nat):Int) t)(h:∃t,O t∧t≠.e):EdS ax e 0 O 0:=by
 refine⟨fun t ht x y hc=>(zsl (hw t ht) hc).1,?_⟩;obtain⟨t,h1,h2⟩:=h;obtain⟨x,y,h3⟩:=zaO t 0 (hw t h1) h2;refine⟨t,x,y,h1,h3,?_⟩;have h4:=zsl (ax:=ax) (e:=e) (hw t h1) h3;rw[zfd] at h4;omega
theorem zsm {ax m:Nat}{O:Tr→Prop}(hw:∀t,O t→wfT ((m:Int)+1) t)(h:∃t,O t∧t≠.e){e:Nat}(he:e≤1)(hno:∀u,¬ kidS ax e O u):∃u,kidS ax (1-e) O u∧u≠.e:=by
 obtain⟨t,h1,h2⟩:=h;obtain⟨x,y,h3⟩:=zaO t (m+1) (hw t h1) h2;obtain⟨i,hi,hk⟩:=zgO (hw t h1) h3;have h9:=zpK ax i hi;have hb:bitK ax i≠e:=fun hb=>hno _ ⟨t,i,h1,hi,hb,rfl,zbd hk⟩;exact⟨t.q i,⟨t,i,h1,hi,by omega,rfl,zbd hk⟩,zbd hk⟩
theorem zur {ax e m:Nat}{t:Tr}(hw:wfT ((m:Int)+1) t)(he:e≤1)(f:Nat→Int)(hf:∀i,i<4→t.q i≠.e→EdS ax e m (fun u=>u=t.q i) (f i)){D:Int}(hle:∀i,i<4→t.q i≠.e→D≤f i+pen ax e m i)(hex:∃i,i<4∧t.q i≠.e∧D=f i+pen ax e m i):EdS ax e (m+1) (fun u=>u=t) D:=by
 refine⟨?_,?_⟩
 ·rintro _ rfl x y hc;obtain⟨i,hi,hk⟩:=zgO hw hc;have e1:=zhR (ax:=ax) (m:=m) hi he (x-offX m i) (y-offY m i);rw[Int.sub_add_cancel,Int.sub_add_cancel] at e1;have h1:=(hf i hi (zbd hk)).1 _ rfl _ _ hk;have h2:=hle i hi (zbd hk);omega
 ·obtain⟨i,hi,hne,rfl⟩:=hex;obtain⟨u,x,y,h0,h2,h3⟩:=(hf i hi hne).2;have h0':u=t.q i:=h0;subst h0';refine⟨t,x+offX m i,y+offY m i,rfl,?_,?_⟩
  ·rw[zew hw hi h2];exact h2
  ·rw[zhR hi he,h3]
structure BoxT (t:Tr)(n:Nat)(x y w h:Int):Prop where
 west:EdS 0 0 n (fun u=>u=t) (x+p2 (n-1))
 north:EdS 1 0 n (fun u=>u=t) (y+p2 (n-1))
 east:EdS 0 1 n (fun u=>u=t) (p2 n-w-(x+p2 (n-1)))
 south:EdS 1 1 n (fun u=>u=t) (p2 n-h-(y+p2 (n-1)))
theorem BoxT.one {t:Tr}{n:Nat}{x y w h x' y' w' h':Int}(a:BoxT t n x y w h)(b:BoxT t n x' y' w' h'):x=x'∧y=y'∧w=w'∧h=h':=by
 have h1:=a.west.one b.west;have h2:=a.north.one b.north;have h3:=a.east.one b.east;have h4:=a.south.one b.south;omega
theorem BoxT.cell {t:Tr}{n:Nat}{x y w h:Int}(a:BoxT t n x y w h)(hn:t.lv.toNat=n){X Y:Int}(hc:zaz t X Y≠0):x≤X∧X≤x+w-1∧y≤Y∧Y≤y+h-1:=by
 unfold zaz at hc;rw[hn] at hc;have h1:x+p2 (n-1)≤X+p2 (n-1):=a.west.1 t rfl _ _ hc;have h2:y+p2 (n-1)≤Y+p2 (n-1):=a.north.1 t rfl _ _ hc;have h3:p2 n-w-(x+p2 (n-1))≤p2 n-1-(X+p2 (n-1)):=a.east.1 t rfl _ _ hc;have h4:p2 n-h-(y+p2 (n-1))≤p2 n-1-(Y+p2 (n-1)):=a.south.1 t rfl _ _ hc;omega
theorem BoxT.touch {t:Tr}{n:Nat}{x y w h:Int}(a:BoxT t n x y w h)(hn:t.lv.toNat=n) :
  (∃X Y,zaz t X Y≠0∧X=x)∧(∃X Y,zaz t X Y≠0∧X=x+w-1)∧(∃X Y,zaz t X Y≠0∧Y=y)∧∃X Y,zaz t X Y≠0∧Y=y+h-1:=by
 have key:∀{ax e:Nat} {D:Int},EdS ax e n (fun u=>u=t) D→∃X Y,zaz t X Y≠0∧D=ds ax e n (X+p2 (n-1)) (Y+p2 (n-1)):=by
  intro ax e D hD;obtain⟨u,X,Y,h0,h1,h2⟩:=hD.2;have h0':u=t:=h0;subst h0';refine⟨X-p2 (n-1),Y-p2 (n-1),?_,?_⟩
  ·unfold zaz;rw[hn,Int.sub_add_cancel,Int.sub_add_cancel];exact h1
  ·rw[Int.sub_add_cancel,Int.sub_add_cancel];exact h2
 obtain⟨X1,Y1,c1,e1⟩:=key a.west;obtain⟨X2,Y2,c2,e2⟩:=key a.east;obtain⟨X3,Y3,c3,e3⟩:=key a.north;obtain⟨X4,Y4,c4,e4⟩:=key a.south;have f1:x+p2 (n-1)=X1+p2 (n-1):=e1;have f2:p2 n-w-(x+p2 (n-1))=p2 n-1-(X2+p2 (n-1)):=e2;have f3:y+p2 (n-1)=Y3+p2 (n-1):=e3;have f4:p2 n-h-(y+p2 (n-1))=p2 n-1-(Y4+p2 (n-1)):=e4;exact⟨⟨X1,Y1,c1,by omega⟩,⟨X2,Y2,c2,by omega⟩,⟨X3,Y3,c3,by omega⟩,⟨X4,Y4,c4,by omega⟩⟩
structure Xb where
 x:Bw
 y:Bw
 w:Bw
 h:Bw
abbrev Xb.val (u:Xb):Value:=.agg #[.bool u.x.s,.slice u.x.a u.x.xs.length u.x.c,.bool u.y.s,.slice u.y.a u.y.xs.length u.y.c,.bool u.w.s,.slice u.w.a u.w.xs.length u.w.c,.bool u.h.s,.slice u.h.a u.h.xs.length u.h.c]
abbrev Xb.obj (u:Xb):Obj:=.cells #[.bool u.x.s,.slice u.x.a u.x.xs.length u.x.c,.bool u.y.s,.slice u.y.a u.y.xs.length u.y.c,.bool u.w.s,.slice u.w.a u.w.xs.length u.w.c,.bool u.h.s,.slice u.h.a u.h.xs.length u.h.c] 105
structure Xb.R (u:Xb)(W:World)(X Y V H:Int):Prop where
 x:u.x.R W X
 y:u.y.R W Y
 w:u.w.R W V
 h:u.h.R W H
theorem Xb.R.next {u:Xb}{W W1:World}{X Y V H:Int}(r:u.R W X Y V H)(k:Below W.heap.size W W1):u.R W1 X Y V H:=⟨r.x.next k,r.y.next k,r.w.next k,r.h.next k⟩
structure Xb.Sh (u:Xb):Prop where
 x:u.x.xs.length≤50000
 y:u.y.xs.length≤50000
 w:u.w.xs.length≤50000
 h:u.h.xs.length≤50000
theorem Xb.cells {W:World}{g:Nat}{u:Xb}(h:W.heap[g]?=some u.obj):W.cell? ⟨g,0,none⟩=some (.bool u.x.s)∧W.cell? ⟨g,1,none⟩=some (.slice u.x.a u.x.xs.length u.x.c)∧W.cell? ⟨g,2,none⟩=some (.bool u.y.s)∧W.cell? ⟨g,3,none⟩=some (.slice u.y.a u.y.xs.length u.y.c)∧W.cell? ⟨g,4,none⟩=some (.bool u.w.s)∧W.cell? ⟨g,5,none⟩=some (.slice u.w.a u.w.xs.length u.w.c)∧W.cell? ⟨g,6,none⟩=some (.bool u.h.s)∧W.cell? ⟨g,7,none⟩=some (.slice u.h.a u.h.xs.length u.h.c):=by
 refine⟨?_,?_,?_,?_,?_,?_,?_,?_⟩ <;> (rw[cell_of_row W g _ _ _ (0,0) h];rfl)
theorem zdF {W:World}{g:Nat}{t:TypeId}(h:W.heap[g]?=some (.cells #[.bool false,.slice none 0 0] t)) :
  W.cell? ⟨g,0,none⟩=some (.bool false)∧W.cell? ⟨g,1,none⟩=some (.slice none 0 0)∧W.frozen? ⟨g,0,none⟩=false∧W.frozen? ⟨g,1,none⟩=false:=by
 refine⟨?_,?_,frozen_of_row W g 0 _ _ h,frozen_of_row W g 1 _ _ h⟩ <;> (rw[cell_of_row W g _ _ _ (0,0) h];rfl)
theorem zpM (u v:Bw)(X Y:Int)(w:World)(h:u.R w X)(k:v.R w Y)(hx : -p2 1329≤X∧X≤p2 1329)(hy : -p2 1329≤Y∧Y≤p2 1329) :
  Calls Tryz.prog 162 #[.agg #[.bool u.s,.slice u.a u.xs.length u.c,.bool v.s,.slice v.a v.xs.length v.c]] w (RetI (Y-X+1) w):=by
 have hp:p2 1330=p2 1329+p2 1329:=zau 1329;have lu:=zaY h (by omega) (by omega);have lv:=zaY k (by omega) (by omega);have hcu:=h.us.cap;have hcv:=k.us.cap;have b1:=(Below.refl w.heap.size w).alloc (Nat.le_refl _) (.cells #[.bool u.s,.slice u.a u.xs.length u.c,.bool v.s,.slice v.a v.xs.length v.c] 194);have b2:=b1.alloc (by simp) (.cells #[.bool false,.slice none 0 0] 48);have hr:=heap_alloc_new (w.alloc (.cells #[.bool u.s,.slice u.a u.xs.length u.c,.bool v.s,.slice v.a v.xs.length v.c] 194)) (.cells #[.bool false,.slice none 0 0] 48);rw[World.size_alloc] at hr;have R0:=Hh hr;have HB:=Hh b2;have HU:=Hh (h.next b2);have HV:=Hh (k.next b2);have HX:=Hh hx;have HY:=Hh hy;have HP:=Hh hp;have q0:True:=trivial;clear h k hx hy hp b1 b2 hr;go_enter Tryz.func162,Tryz.ntmps162;go_wp2_with (first
  | (have _t:=q0;go_at_call 208;clear _t;go_loud (refine(zlH v.s u.s v.a u.a v.c u.c v.xs u.xs _ HV.out.us HU.out.us (by omega) (by omega)).mono ?_;rintro e w1 h1;obtain⟨d,rfl,rd,b1⟩:=zam h1;rw[HV.out.v,HU.out.v] at rd;have HD:=Hh rd;have HB:=Hh (HB.out.trans (b1.mono HB.out.size));have R1:=Hh ((b1.block _ (zag R0.out)).trans R0.out);clear rd b1 h1;have q1:=q0;clear q0))
  | (have _t:=q1;go_at_call 159;clear _t;go_loud (refine(zkA 1 _ (by omega) (by omega)).mono ?_;rintro e w2 h2;obtain⟨o,rfl,ro,b2⟩:=zam h2;have HD:=Hh (HD.out.next b2);have HO:=Hh ro;have R2:=Hh ((b2.block _ (zag R1.out)).trans R1.out);have HB:=Hh (HB.out.trans (b2.mono HB.out.size));clear ro b2 h2;have q2:=q1;clear q1))
  | (have _t:=q2;go_at_call 207;clear _t;go_loud (refine(zlG d.s o.s d.a o.a d.c o.c d.xs o.xs _ HD.out.us HO.out.us (Nat.le_trans (zaY HD.out (by have:=HX.out;have:=HY.out;have:=HP.out;omega) (by have:=HX.out;have:=HY.out;have:=HP.out;omega)) (by omega)) (Nat.le_trans (zaY HO.out (by have:=zar 1330;omega) (by have:=zar 1330;omega)) (by omega))).mono ?_;rintro e w3 h3;obtain⟨s,rfl,rs,b3⟩:=zam h3;rw[HD.out.v,HO.out.v] at rs;have HS:=Hh rs;have R3:=Hh ((b3.block _ (zag R2.out)).trans R2.out);obtain⟨g0,g1,f0,f1⟩:=zdF R3.out;have HB:=Hh (HB.out.trans (b3.mono HB.out.size));clear rs b3 h3;have q3:=q2;clear q2)))
 have hz:=HS.out.set (o:=bw0) R3.out;have e1:=hz.c0;have e2:=hz.c1;refine bodyPost_ret (v:=.agg #[.bool s.s,.slice s.a s.xs.length s.c]) (by simp[results,Tryz.results162,go_sem,e1,e2]) rfl ?_;exact⟨s.a,s.c,s.s,s.xs,rfl,hz.r.us,hz.r.cn,hz.r.v,(HB.out.setCell (p:=⟨w.heap.size+1,0,none⟩) (Nat.le_succ _) _).setCell (p:=⟨w.heap.size+1,1,none⟩) (Nat.le_succ _) _⟩
theorem zpN (A:Option Addr)(c n:Nat)(xs:List Nat)(w:World)(h:Us w A c xs)(hn:xs.length=n)(hl:n≤1000000) :
  Calls Tryz.prog 242 #[.slice A n c] w (RetI (val xs:Int) w):=by
 have hcap:=h.cap;rw[hn] at hcap;obtain⟨W,hW⟩:∃W:World,W=w.alloc (.cells #[.bool false,.slice none 0 0] 48):=⟨_,rfl⟩;have hb:Below w.heap.size w W:=by rw[hW];exact(Below.refl _ w).alloc (Nat.le_refl _) _
 have hr:W.heap[w.heap.size]?=some (.cells #[.bool false,.slice none 0 0] 48):=by rw[hW];exact heap_alloc_new w _
 have HB:=Hh hb;have HR:=Hh hr;have HU:=Hh (h.below hb);have HN:=Hh hn;obtain⟨g0,g1,f0,f1⟩:=zdF hr;clear h hb hr hn;go_enter Tryz.func242,Tryz.ntmps242;go_wp2_with fail;rw[←hW];clear hW;go_loopw [0] (fun z wr=>∃m:Nat,m≤n∧z=.slice A m c∧(∀j,m≤j→j<xs.length→xs[j]?.getD 0=0)∧W=wr) (fun z _=>lenOf z)
 case atStart=>exact⟨n,Nat.le_refl _,rfl,fun j h1 h2=>absurd h2 (by have:=HN.out;omega),rfl⟩
 case round =>
  obtain⟨m,hm,rfl,hz,rfl⟩:=hrel;have HZ:=Hh hz;clear hz;have fin:∀(m:Nat),m≤n→(∀j,m≤j→j<xs.length→xs[j]?.getD 0=0)→(m=0∨xs[m-1]?.getD 0≠0)→RetI (val xs:Int) w (.returned (.agg #[.bool false,.slice A m c])) ((W.setCell ⟨w.heap.size,0,none⟩ (.bool false)).setCell ⟨w.heap.size,1,none⟩ (.slice A m c))∧((W.setCell ⟨w.heap.size,0,none⟩ (.bool false)).setCell ⟨w.heap.size,1,none⟩ (.slice A m c)).cell? ⟨w.heap.size,0,none⟩=some (.bool false)∧((W.setCell ⟨w.heap.size,0,none⟩ (.bool false)).setCell ⟨w.heap.size,1,none⟩ (.slice A m c)).cell? ⟨w.heap.size,1,none⟩=some (.slice A m c):=by
   intro m hm hz hx;have e1:(xs.take m).length=m:=by rw[List.length_take,HN.out];omega
   have hc:zaI (xs.take m):=by
    rcases hx with rfl|hx
    ·rw[List.take_zero];exact zbh
    ·by_cases h0:m=0
     ·subst h0;rw[List.take_zero];exact zbh
     ·obtain⟨k,rfl⟩:∃k,m=k+1:=⟨m-1,by omega⟩;exact zhw (by have:=HN.out;omega) hx
   have hr:(⟨false,A,c,xs.take m⟩:Bw).R W (val xs:Int):=⟨HU.out.take (by have:=HN.out;omega),⟨hc,by simp⟩,by
    show ival false (xs.take m)=_;unfold ival;rw[zkl (by have:=HN.out;omega) hz];simp⟩
   have hz:=hr.set (o:=bw0) HR.out;rw[show(⟨false,A,c,xs.take m⟩:Bw).xs.length=m from e1] at hz;have c1:=hz.c1;rw[show(⟨false,A,c,xs.take m⟩:Bw).xs.length=m from e1] at c1;refine⟨⟨A,c,false,xs.take m,by rw[e1],hz.r.us,hz.r.cn,hz.r.v,?_⟩,hz.c0,c1⟩;exact(HB.out.setCell (p:=⟨w.heap.size,0,none⟩) (Nat.le_refl _) _).setCell (p:=⟨w.heap.size,1,none⟩) (Nat.le_refl _) _
  have FIN:=Hh fin;clear fin;by_cases h0:m=0
  ·subst h0;go_wp2_with fail;obtain⟨hf,e1,e2⟩:=FIN.out 0 (by omega) HZ.out (Or.inl rfl);refine bodyPost_ret (v:=.agg #[.bool false,.slice A 0 c]) (by simp[results,Tryz.results242,go_sem,e1,e2]) rfl ?_;exact hf
  ·obtain⟨p,rfl⟩:∃p,m=p+1:=⟨m-1,by omega⟩;have hpx:p<xs.length:=by have:=HN.out;omega
   obtain⟨b,off,rfl,-,hcl⟩:=HU.out.at_ (by omega)
   have hcp:=hcl p hpx;obtain⟨x,hx⟩:∃x,x=xs[p]?.getD 0:=⟨_,rfl⟩;rw[←hx] at hcp;have HX:=Hh hx;have t1:decide ((p:Int)+1>0)=true:=decide_eq_true (by omega);have i1:(0:Int)≤(p:Int):=by omega
   have i2:(p:Int)<(p:Int)+1:=by omega
   have i3:IntKind.i64.wrap ((p:Int)+1-1)=(p:Int):=by rw[show(p:Int)+1-1=(p:Int) by omega];exact IntWalk.i64_in _ (by omega)
   have i7:IntKind.i64.wrap (p:Int)=(p:Int):=IntWalk.i64_in _ (by omega);clear hcl hx;by_cases hx0:x=0
   ·have t2:((x:Int)==0)=true:=beq_iff_eq.2 (by omega);go_wp2_with fail;go_roundw
    case rel =>
     refine⟨p,by omega,by first|rfl|trivial,fun j h1 h2=>?_,by first|rfl|trivial⟩;by_cases hj:j=p
     ·rw[hj,←HX.out,hx0]
     ·exact HZ.out j (by omega) h2
    case measure=>simp[lenOf]
   ·have t2:((x:Int)==0)=false:=beq_eq_false_iff_ne.2 (by omega);go_wp2_with fail;obtain⟨hf,e1,e2⟩:=FIN.out (p+1) (by omega) HZ.out (Or.inr (by rw[Nat.add_sub_cancel,←HX.out];exact hx0));refine bodyPost_ret (v:=.agg #[.bool false,.slice (some ⟨b,off,none⟩) (p+1) c]) (by simp[results,Tryz.results242,go_sem,e1,e2]) rfl ?_;exact hf
def IsE (l:List Nd)(ax e i:Nat)(D:Int):Prop:=EdS ax e (at_ l i).lv.toNat (fun u=>u=den l (i+1)) D
theorem zjP {l:List Nd}(hl:zac l=true){i:Nat}(hi:i<l.length){k:Nat}(hk:k<4):(den l (i+1)).q k=kidT (dens l) (at_ l i).lv ((at_ l i).kid k):=by
 rw[zaw hl hi,zdQ _ _ hk]
theorem zhS {l:List Nd}(hg:zaq l){i:Nat}(hi:i<l.length){k:Nat}(hk:k<4):(at_ l i).kid k≠0↔(den l (i+1)).q k≠.e:=by
 have hf:=zaj (zad hg.1 hi) hk;rw[zjP hg.1 hi hk];by_cases hv:(at_ l i).lv=1
 ·rw[hv,zbI];unfold st;by_cases h0:(at_ l i).kid k=0
  ·simp[h0]
  ·simp[h0]
 ·rw[zaB hv];rcases zaA hv hf with h|⟨m,h,hm,-⟩
  ·rw[h];simp[zav]
  ·rw[h,show(((m:Int)+1).toNat)=m+1 by omega];exact⟨fun _=>(hg.2 m hm).1,fun _=>by omega⟩
theorem zpO {l:List Nd}(hg:zaq l){i:Nat}(hi:i<l.length){ax e:Nat}(he:e≤1){m:Nat}(hm:(at_ l i).lv=(m:Int)+1)(f:Nat→Int)
  (hf:∀k,k<4→(at_ l i).kid k≠0→(m=0∧f k=0)∨(m≠0∧IsE l ax e (((at_ l i).kid k).toNat-1) (f k)))
  {D:Int} (hle:∀k,k<4→(at_ l i).kid k≠0→D≤f k+pen ax e m k) (hex:∃k,k<4∧(at_ l i).kid k≠0∧D=f k+pen ax e m k):IsE l ax e i D:=by
 have hw:=zbv hg.1 i hi;rw[hm] at hw;unfold IsE;rw[hm,show(((m:Int)+1).toNat)=m+1 by omega];refine zur hw he f (fun k hk hne=>?_) (fun k hk hne=>hle k hk ((zhS hg hi hk).2 hne)) ?_
 ·have h0:=(zhS hg hi hk).2 hne;rcases hf k hk h0 with⟨h1,h2⟩|⟨h1,h2⟩
  ·subst h1;rw[h2];refine zpL (fun t ht=>?_) ⟨_,rfl,hne⟩;have ht':t=(den l (i+1)).q k:=ht;subst ht';have h3:=wf_q hw k;exact h3
  ·have hv:(at_ l i).lv≠1:=by omega
   rcases zaA hv (zaj (zad hg.1 hi) hk) with h|⟨p,h,hp,hl⟩
   ·exact absurd h h0
   ·unfold IsE at h2;rw[h,show(((p:Int)+1).toNat)-1=p by omega,hl,hm,show(((m:Int)+1-1).toNat)=m by omega] at h2;refine h2.of fun t=>?_;rw[zjP hg.1 hi hk,zaB hv,h,show(((p:Int)+1).toNat)=p+1 by omega]
 ·obtain⟨k,hk,h1,h2⟩:=hex;exact⟨k,hk,(zhS hg hi hk).1 h1,h2⟩
structure DesJ (ax e top lev:Nat)(root O:Tr→Prop)(acc:Int):Prop where
 up:∀D,EdS ax e lev O D→EdS ax e top root (D+acc)
 wf:∀t,O t→wfT (lev:Int) t
 some:∃t,O t∧t≠.e
theorem DesJ.start {ax e top:Nat}{root:Tr→Prop}(hw:∀t,root t→wfT (top:Int) t)(hs:∃t,root t∧t≠.e):DesJ ax e top top root root 0 :=
 ⟨fun D h=>by rw[Int.add_zero];exact h,hw,hs⟩
theorem DesJ.wf1 {ax e top m:Nat}{root O:Tr→Prop}{acc:Int}(h:DesJ ax e top (m+1) root O acc):∀t,O t→wfT ((m:Int)+1) t:=fun t ht=>h.wf t ht
theorem DesJ.near {ax e top m:Nat}{root O:Tr→Prop}{acc:Int}(h:DesJ ax e top (m+1) root O acc)(he:e≤1)(hk:∃u,kidS ax e O u):DesJ ax e top m root (kidS ax e O) acc:=by
 obtain⟨u,hu⟩:=hk;have hne:u≠.e:=by
  obtain⟨_,_,_,_,_,_,h9⟩:=hu;exact h9
 exact⟨fun D hD=>h.up D (zuq h.wf1 he hD),zla h.wf1,u,hu,hne⟩
theorem DesJ.far {ax e f top m:Nat}{root O:Tr→Prop}{acc:Int}(h:DesJ ax e top (m+1) root O acc)(he:e≤1)(hf:f=1-e)(hk:∀u,¬ kidS ax e O u):DesJ ax e top m root (kidS ax f O) (acc+p2 m):=by
 obtain⟨u,hu,hne⟩:=zsm h.wf1 h.some he hk;subst hf;refine⟨fun D hD=>?_,zla h.wf1,u,hu,hne⟩;have h1:=h.up _ (zvA h.wf1 he rfl hk hD)
 rwa [show D+(acc+p2 m)=D+p2 m+acc by omega]
theorem DesJ.done {ax e top:Nat}{root O:Tr→Prop}{acc:Int}(h:DesJ ax e top 0 root O acc):EdS ax e top root acc:=by
 have h1:=h.up 0 (zpL h.wf h.some)
 rwa [Int.zero_add] at h1
theorem DesJ.of {ax e top lev:Nat}{root O M:Tr→Prop}{acc:Int}(h:DesJ ax e top lev root O acc)(k:∀t,O t↔M t):DesJ ax e top lev root M acc :=
 ⟨fun D hD=>h.up D (hD.of fun t=>(k t).symm),fun t ht=>h.wf t ((k t).2 ht),by
  obtain⟨t,h1,h2⟩:=h.some;exact⟨t,(k t).1 h1,h2⟩⟩
def Nums (l:List Nd)(v:Int)(K:List Int)(u:Tr):Prop:=∃k,k∈K∧u=kidT (dens l) v k
theorem zsn {l:List Nd}(hg:zaq l){ax e m:Nat}{O K:List Int}(hO:∀n,n∈O→1≤n∧n≤l.length∧(at_ l (n.toNat-1)).lv=(m:Int)+1)
  (hK:∀k,k∈K↔∃n,n∈O∧∃i,i<4∧bitK ax i=e∧(at_ l (n.toNat-1)).kid i=k∧k≠0) (u:Tr) :
  kidS ax e (Nums l ((m:Int)+1+1) O) u↔Nums l ((m:Int)+1) K u:=by
 have key:∀n,n∈O→kidT (dens l) ((m:Int)+1+1) n=den l ((n.toNat-1)+1)∧n.toNat-1<l.length:=fun n hn=>by
  have h1:=hO n hn;rw[zaB (by omega)];exact⟨by rw[show n.toNat-1+1=n.toNat by omega],by omega⟩
 constructor
 ·rintro⟨t,i,⟨n,hn,rfl⟩,hi,hb,rfl,hne⟩;obtain⟨e1,e2⟩:=key n hn;rw[e1] at hne ⊢;rw[zjP hg.1 e2 hi,(hO n hn).2.2];exact⟨_,(hK _).2 ⟨n,hn,i,hi,hb,rfl,(zhS hg e2 hi).2 hne⟩,rfl⟩
 ·rintro⟨k,hk,rfl⟩;obtain⟨n,hn,i,hi,hb,rfl,hne⟩:=(hK k).1 hk;obtain⟨e1,e2⟩:=key n hn;refine⟨den l (n.toNat-1+1),i,⟨n,hn,e1.symm⟩,hi,hb,?_,?_⟩
  ·rw[zjP hg.1 e2 hi,(hO n hn).2.2]
  ·have h9:=(zhS hg e2 hi).1 hne
   rwa [zjP hg.1 e2 hi,(hO n hn).2.2] at h9
def zbr (ax hf:Nat)(x:Nd):Nat→List Int
 | 0=>[]
 | i+1=>zbr ax hf x i++(if x.kid i≠0∧bitK ax i=hf then [x.kid i] else [])
def zbt (l:List Nd)(ax hf:Nat)(O:List Int):Nat→List Int
 | 0=>[]
 | k+1=>zbt l ax hf O k++zbr ax hf (at_ l ((O.getD k 0).toNat-1)) 4
theorem zgP {ax hf:Nat}{x:Nd}{k:Int}:∀n:Nat,k∈zbr ax hf x n↔∃i,i<n∧bitK ax i=hf∧x.kid i=k∧k≠0
 | 0=>⟨fun h=>absurd h (by simp[zbr,zbt]),fun⟨i,h,_⟩=>by omega⟩
 | n+1=>by
  rw[show zbr ax hf x (n+1)=zbr ax hf x n++(if x.kid n≠0∧bitK ax n=hf then [x.kid n] else []) from rfl,List.mem_append,zgP n];constructor
  ·rintro(⟨i,h1,h2⟩|h)
   ·exact⟨i,by omega,h2⟩
   ·split at h
    ·rename_i hc;have h':=List.mem_singleton.1 h;exact⟨n,by omega,hc.2,h'.symm,by rw[h'];exact hc.1⟩
    ·cases h
  ·rintro⟨i,h1,h2,h3,h4⟩;by_cases hi:i=n
   ·subst hi;refine .inr ?_;rw[if_pos ⟨by rw[h3];exact h4,h2⟩,h3];exact List.mem_singleton.2 rfl
   ·exact .inl ⟨i,by omega,h2,h3,h4⟩
theorem zjQ {l:List Nd}{ax hf:Nat}{O:List Int}{k:Int}:∀m:Nat,k∈zbt l ax hf O m↔∃j,j<m∧k∈zbr ax hf (at_ l ((O.getD j 0).toNat-1)) 4
 | 0=>⟨fun h=>absurd h (by simp[zbr,zbt]),fun⟨i,h,_⟩=>by omega⟩
 | m+1=>by
  rw[show zbt l ax hf O (m+1)=zbt l ax hf O m++zbr ax hf (at_ l ((O.getD m 0).toNat-1)) 4 from rfl,List.mem_append,zjQ m];constructor
  ·rintro(⟨i,h1,h2⟩|h)
   ·exact⟨i,by omega,h2⟩
   ·exact⟨m,by omega,h⟩
  ·rintro⟨i,h1,h2⟩;by_cases hi:i=m
   ·subst hi;exact .inr h2
   ·exact .inl ⟨i,by omega,h2⟩
theorem zjR {l:List Nd}{ax hf:Nat}{O:List Int}{k:Int}:k∈zbt l ax hf O O.length↔∃n,n∈O∧∃i,i<4∧bitK ax i=hf∧(at_ l (n.toNat-1)).kid i=k∧k≠0:=by
 rw[zjQ];constructor
 ·rintro⟨j,hj,h⟩;refine⟨O.getD j 0,?_,(zgP 4).1 h⟩;rw[List.getD_eq_getElem?_getD,List.getElem?_eq_getElem hj];exact List.getElem_mem hj
 ·rintro⟨n,hn,h⟩;obtain⟨j,hj,rfl⟩:=List.mem_iff_getElem.1 hn;refine⟨j,hj,?_⟩;rw[List.getD_eq_getElem?_getD,List.getElem?_eq_getElem hj];exact(zgP 4).2 h
theorem zgQ {ax hf:Nat}{x:Nd}:∀n:Nat,(zbr ax hf x n).length≤n
 | 0=>Nat.le_refl _
 | n+1=>by
  rw[show zbr ax hf x (n+1)=zbr ax hf x n++(if x.kid n≠0∧bitK ax n=hf then [x.kid n] else []) from rfl,List.length_append];have:=zgQ (ax:=ax) (hf:=hf) (x:=x) n;split <;> simp <;> omega
theorem zgR {l:List Nd}{ax hf:Nat}{O:List Int}:∀m:Nat,(zbt l ax hf O m).length≤4*m
 | 0=>Nat.le_refl _
 | m+1=>by
  rw[show zbt l ax hf O (m+1)=zbt l ax hf O m++zbr ax hf (at_ l ((O.getD m 0).toNat-1)) 4 from rfl,List.length_append];have:=zgR (l:=l) (ax:=ax) (hf:=hf) (O:=O) m;have:=zgQ (ax:=ax) (hf:=hf) (x:=at_ l ((O.getD m 0).toNat-1)) 4;omega
theorem zlb (zs:List Int)(k:Int):k∈Lib.compact zs↔k∈zs:=by
 have hget:∀j,j<zs.length→zs.toArray[j]! = zs[j]?.getD 0:=fun j hj=>by
  rw[getElem!_pos zs.toArray j (by simpa using hj),List.getElem?_eq_getElem hj];simp
 unfold Lib.compact Lib.compactUpTo;rw[List.mem_map];constructor
 ·rintro⟨j,hj,rfl⟩;have hj':=List.mem_range.1 (List.mem_filter.1 hj).1;rw[hget j hj',List.getElem?_eq_getElem hj'];exact List.getElem_mem hj'
 ·intro hk;obtain⟨j,hj,hjk⟩:=List.mem_iff_getElem.1 hk;have key:∀j,(hj:j<zs.length)→∃i,i∈List.filter (Lib.keeps zs.toArray) (List.range zs.length)∧zs.toArray[i]! = zs.toArray[j]! := by
   intro j
   induction j with
   | zero=>exact fun hj=>⟨0,List.mem_filter.2 ⟨List.mem_range.2 hj,by simp[Lib.keeps]⟩,rfl⟩
   | succ j ih =>
    intro hj;by_cases h:zs.toArray[j+1]! = zs.toArray[j]!
    ·obtain⟨i,h1,h2⟩:=ih (by omega);exact⟨i,h1,by rw[h2,h]⟩
    ·exact⟨j+1,List.mem_filter.2 ⟨List.mem_range.2 hj,by simpa [Lib.keeps] using h⟩,rfl⟩
  obtain⟨i,h1,h2⟩:=key j hj;refine⟨i,h1,?_⟩;rw[h2,hget j hj,List.getElem?_eq_getElem hj];exact hjk
theorem ziW {zs:List Int}(h:zs.Pairwise (· ≤ ·)):(Lib.compact zs).Nodup:=by
 have hget:∀j,j<zs.length→zs.toArray[j]! = zs[j]?.getD 0:=fun j hj=>by
  rw[getElem!_pos zs.toArray j (by simpa using hj),List.getElem?_eq_getElem hj];simp
 have hle:∀i j,i≤j→j<zs.length→zs[i]?.getD 0≤zs[j]?.getD 0:=fun i j hij hj=>by
  rcases Nat.lt_or_ge i j with h1|h1
  ·rw[List.getElem?_eq_getElem (by omega),List.getElem?_eq_getElem hj];exact List.pairwise_iff_getElem.1 h i j (by omega) hj h1
  ·rw[show i=j by omega];exact Int.le_refl _
 unfold Lib.compact Lib.compactUpTo;refine List.nodup_iff_pairwise_ne.2 (List.pairwise_map.2 ?_);refine(List.Pairwise.imp_of_mem (R:=(· < ·)) ?_ (List.Pairwise.filter _ List.pairwise_lt_range));intro i j hi hj hij he;have hj1:=List.mem_filter.1 hj;have hj2:=List.mem_range.1 hj1.1;have hk:Lib.keeps zs.toArray j=true:=hj1.2;unfold Lib.keeps at hk;rcases of_decide_eq_true hk with h0|h0
 ·omega
 ·refine h0 ?_;rw[hget i (by omega),hget j hj2] at he;rw[hget j hj2,hget (j-1) (by omega)];have h1:=hle i (j-1) (by omega) (by omega);have h2:=hle (j-1) j (by omega) hj2;omega
def zeD (K:List Int):List Int:=Lib.compact (K.mergeSort fun x y=>decide (x≤y))
theorem zjS (K:List Int)(k:Int):k∈zeD K↔k∈K:=by
 unfold zeD;rw[zlb,List.mem_mergeSort]
theorem zgS (K:List Int):(zeD K).Nodup:=by
 refine ziW ?_;refine(List.pairwise_mergeSort (le:=fun x y:Int=>decide (x≤y)) ?_ ?_ K).imp ?_
 ·intro a b c h1 h2;have h1:=of_decide_eq_true h1;have h2:=of_decide_eq_true h2;exact decide_eq_true (by omega)
 ·intro a b;rw[Bool.or_eq_true];by_cases h:a≤b
  ·exact .inl (decide_eq_true h)
  ·exact .inr (decide_eq_true (by omega))
 ·intro a b h;exact of_decide_eq_true h
theorem zpP {N:Nat}{K:List Int}(h:K.Nodup)(hk:∀k∈K,1≤k∧k≤N):K.length≤N:=by
 have h1:(K.map Int.toNat).Nodup:=by
  refine List.nodup_iff_pairwise_ne.2 (List.pairwise_map.2 ?_);refine(List.nodup_iff_pairwise_ne.1 h).imp_of_mem ?_;intro a b ha hb hne e;have:=hk a ha;have:=hk b hb;omega
 have h2:=zfL N _ h1 (by
  intro v hv;obtain⟨k,h3,rfl⟩:=List.mem_map.1 hv;have:=hk k h3;omega)
 rwa [List.length_map] at h2
open Go.Sort
def ZsB (w:World)(A:Option Addr)(c:Nat)(K:List Int):Prop :=
 K.length≤c∧c≤maxLen∧(0<K.length→∃b,A=some ⟨b,0,none⟩∧b<w.heap.size∧∀j,j<K.length→w.cell? ⟨b,j,none⟩=some (.int .i64 (K.getD j 0)))
theorem ZsB.next {w w':World}{A:Option Addr}{c:Nat}{K:List Int}(h:ZsB w A c K)(hb:Below w.heap.size w w'):ZsB w' A c K :=
 ⟨h.1,h.2.1,fun hn=>by
  obtain⟨b,e,hlt,hc⟩:=h.2.2 hn;exact⟨b,e,Nat.lt_of_lt_of_le hlt hb.size,fun j hj=>(World.cell?_of_block (hb.block b hlt)).trans (hc j hj)⟩⟩
theorem ZsB.cap {w:World}{A:Option Addr}{c:Nat}{K:List Int}(h:ZsB w A c K):K.length≤c∧c≤9223372036854775807:=by
 have h1:=h.1;have h2:=h.2.1;simp only[maxLen] at h2;exact⟨h1,by omega⟩
def OwnZ (w:World)(base:Nat)(v:Value)(K:List Int):Prop:=w.ownsRow base 3 1 v K.length (K.map (Value.int .i64))
theorem OwnZ.nil (w:World)(base:Nat):OwnZ w base (.slice none 0 0) []:=World.ownsRow_nil w base _ 1
theorem OwnZ.zs {w:World}{base:Nat}{v:Value}{K:List Int}(h:OwnZ w base v K):∃A c,v=.slice A K.length c∧ZsB w A c K:=by
 rcases h.2 with⟨h',hn⟩|⟨g,cap,cur,h',hb,hg,hnc,hcm,hcs,htake⟩
 ·exact⟨none,0,by rw[h',hn],by omega,by simp[maxLen],fun h=>by omega⟩
 ·refine⟨some ⟨g,0,none⟩,cap,h',hnc,hcm,fun _=>⟨g,rfl,(Array.getElem?_eq_some_iff.1 hg).1,fun j hj=>?_⟩⟩;subst h';rw[h.cellAt j (by omega),List.getElem?_map,List.getD_eq_getElem?_getD,List.getElem?_eq_getElem hj];rfl
theorem znE {w:World}{base:Nat}{v:Value}{xs:List Int}(h:OwnZ w base v xs):∀k,v.ownBlock=some k→base≤k:=fun k hk=>(h.lt k hk).1
theorem zpQ (base:Nat)(v:Value)(K:List Int)(w:World)(h:OwnZ w base v K)(hb:base≤w.heap.size)(hl:K.length≤100000000) :
  Calls Tryz.prog 281 #[v] w fun e w'=>e=.returned (.tuple #[])∧OwnZ w' base v (K.mergeSort fun x y=>decide (x≤y))∧Below base w w':=by
 rcases h.2 with⟨rfl,hn⟩|⟨g,cap,cur,rfl,hbg,hg,hnc,hcm,hcs,htake⟩
 ·have hk:K=[]:=List.length_eq_zero_iff.1 hn;subst hk;have hcon:=Any.slices_Sort_int_none Tryz.sortInts none 0 w;change Calls Tryz.prog 281 _ _ _ at hcon;refine hcon.mono ?_;rintro e w' ⟨rfl,rfl⟩;exact⟨rfl,by rw[List.mergeSort_nil];exact OwnZ.nil _ _,Below.refl _ _⟩
 ·have hlt:g<w.heap.size:=(Array.getElem?_eq_some_iff.1 hg).1;have hH:Holds (Value.int .i64) w g 0 K.toArray:=holds_of_blockI hg (by rw[Nat.mul_one] at htake;exact htake);have hcon:=calls_of_every_depth fun D=>AnyS.slices_Sort_int_alone Tryz.sortInts D g 0 cap K w hH hlt (by omega);change Calls Tryz.prog 281 _ _ _ at hcon;refine hcon.mono ?_;rintro e w' ⟨rfl,n,os,rfl⟩;have hl2:(K.mergeSort fun x y=>decide (x≤y)).length=K.length:=List.length_mergeSort K;refine⟨rfl,?_,(Below.refl _ _).grown (grownBy_sortedI _) hb (fun j hj=>by cases hj;exact hbg)⟩;unfold OwnZ;rw[hl2];exact ownsRow_sortedI (n:=n) (os:=os) hl2 hbg hg hnc hcm hcs
theorem zjT (base:Nat)(v:Value)(K:List Int)(w:World)(h:OwnZ w base v K)(hb:base≤w.heap.size)(hl:K.length≤100000000) :
  Calls Tryz.prog 282 #[v] w fun e w'=>∃v',e=.returned v'∧OwnZ w' base v' (Lib.compact K)∧Below base w w':=by
 rcases h.2 with⟨rfl,hn⟩|⟨g,cap,cur,rfl,hbg,hg,hnc,hcm,hcs,htake⟩
 ·have hk:K=[]:=List.length_eq_zero_iff.1 hn;subst hk;have hcon:=Any.slices_Compact_int_empty Tryz.compactInts none 0 w;change Calls Tryz.prog 282 _ _ _ at hcon;refine hcon.mono ?_;rintro e w' ⟨rfl,rfl⟩;exact⟨_,rfl,OwnZ.nil _ _,Below.refl _ _⟩
 ·have hlt:g<w.heap.size:=(Array.getElem?_eq_some_iff.1 hg).1;have hH:Holds (Value.int .i64) w g 0 K.toArray:=holds_of_blockI hg (by rw[Nat.mul_one] at htake;exact htake);have hcon:=Any.slices_Compact_int Tryz.compactInts g 0 cap K w hH (by omega) hnc;change Calls Tryz.prog 282 _ _ _ at hcon;refine hcon.mono ?_;rintro e w' ⟨rfl,q,rfl⟩;have hle:(Lib.compact K).length≤K.length:=by
   unfold Lib.compact Lib.compactUpTo;rw[List.length_map];refine Nat.le_trans (List.length_filter_le _ _) ?_;rw[List.length_range];exact Nat.le_refl _
  refine⟨_,rfl,?_,Lib.below_putRow (Below.refl _ _) hbg⟩;have h1:=Lib.ownsRow_putRow (q:=q) (k:=(Lib.compact K).length) (ys:=Lib.compact K++List.replicate (K.length-(Lib.compact K).length) 0) h (by simp;omega) hle
  rwa [List.take_left] at h1
end Go.Proofs.YtfjajpnfjjdnpaaGreatDoor
