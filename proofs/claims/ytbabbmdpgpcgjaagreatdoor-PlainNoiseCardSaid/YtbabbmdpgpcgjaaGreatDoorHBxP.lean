import Derived.Test.YtbabbmdpgpcgjaaGreatDoorHLkRw

set_option linter.unusedVariables false
set_option linter.unusedSimpArgs false
set_option maxRecDepth 100000
set_option maxHeartbeats 6400000
namespace Go.Proofs.YtbabbmdpgpcgjaaGreatDoor
open Go.RowKit Num Nds
structure Ag (w W:World)(L:List (Option Addr × Nat × List Nd))(M:List (Nat × Value))(K:List (Nat × Bw × Int)):Prop where
 al:Al w W L M
 kb:∀t∈K,t.2.1.B W t.1 t.2.2
theorem Ag.start (w:World):Ag w w [] [] []:=⟨Al.start w,by simp⟩
theorem Ag.step {w W W':World}{L:List (Option Addr × Nat × List Nd)}{M:List (Nat × Value)}{K:List (Nat × Bw × Int)}(s:Ag w W L M K)(b:Below W.heap.size W W'):Ag w W' L M K :=
 ⟨s.al.step b,fun t ht=>(s.kb t ht).next b⟩
theorem Ag.alloc {w W:World}{L:List (Option Addr × Nat × List Nd)}{M:List (Nat × Value)}{K:List (Nat × Bw × Int)}(s:Ag w W L M K)(o:Obj):Ag w (W.alloc o) L M K:=s.step ((Below.refl _ W).alloc (Nat.le_refl _) o)
theorem Ag.addN {w W:World}{L:List (Option Addr × Nat × List Nd)}{M:List (Nat × Value)}{K:List (Nat × Bw × Int)}(s:Ag w W L M K){A:Option Addr}{c:Nat}{l:List Nd}(h:Ns W A c l):Ag w W ((A,c,l) :: L) M K:=⟨s.al.addN h,s.kb⟩
theorem Ag.addB {w W:World}{L:List (Option Addr × Nat × List Nd)}{M:List (Nat × Value)}{K:List (Nat × Bw × Int)}(s:Ag w W L M K)(v:Value):Ag w (W.alloc (.cells #[v] 27)) L ((W.heap.size,v) :: M) K:=⟨s.al.addB v,(s.alloc _).kb⟩
theorem Ag.addK {w W:World}{L:List (Option Addr × Nat × List Nd)}{M:List (Nat × Value)}{K:List (Nat × Bw × Int)}(s:Ag w W L M K){u:Bw}{X:Int}(h:u.R W X):Ag w (W.alloc (.cells #[.bool u.s,.slice u.a u.xs.length u.c] 69)) L M ((W.heap.size,u,X) :: K) :=
 ⟨(s.alloc _).al,fun t ht=>by
  rcases List.mem_cons.1 ht with rfl|ht
  ·exact h.box
  ·exact(s.alloc _).kb t ht⟩
theorem Ag.getN {w W:World}{L:List (Option Addr × Nat × List Nd)}{M:List (Nat × Value)}{K:List (Nat × Bw × Int)}(s:Ag w W L M K){A:Option Addr}{c:Nat}{l:List Nd}(h:(A,c,l)∈L):Ns W A c l:=s.al.getN h
theorem Ag.getB {w W:World}{L:List (Option Addr × Nat × List Nd)}{M:List (Nat × Value)}{K:List (Nat × Bw × Int)}(s:Ag w W L M K){g:Nat}{v:Value}(h:(g,v)∈M):W.cell? ⟨g,0,none⟩=some v:=s.al.getB h
theorem Ag.getK {w W:World}{L:List (Option Addr × Nat × List Nd)}{M:List (Nat × Value)}{K:List (Nat × Bw × Int)}(s:Ag w W L M K){g:Nat}{u:Bw}{X:Int}(h:(g,u,X)∈K):u.B W g X:=s.kb _ h
theorem Ag.b {w W:World}{L:List (Option Addr × Nat × List Nd)}{M:List (Nat × Value)}{K:List (Nat × Bw × Int)}(s:Ag w W L M K):Below w.heap.size w W:=s.al.sn.1
def bitK (ax i:Nat):Nat:=if ax=0 then i%2 else i / 2
def co (ax:Nat)(x y:Int):Int:=if ax=0 then x else y
def ds (ax e n:Nat)(x y:Int):Int:=if e=0 then co ax x y else p2 n-1-co ax x y
def pen (ax e m i:Nat):Int:=if bitK ax i=e then 0 else p2 m
theorem zir {ax e m i:Nat}(hi:i<4)(he:e≤1)(x y:Int):ds ax e (m+1) (x+offX m i) (y+offY m i)=ds ax e m x y+pen ax e m i:=by
 have hp:=zap m;unfold ds co pen bitK offX offY;have h4:i=0∨i=1∨i=2∨i=3:=by omega
 have h2:e=0∨e=1:=by omega
 by_cases ha:ax=0
 ·rcases h4 with rfl|rfl|rfl|rfl <;> rcases h2 with rfl|rfl <;> simp[ha] <;> omega
 ·rcases h4 with rfl|rfl|rfl|rfl <;> rcases h2 with rfl|rfl <;> simp[ha] <;> omega
theorem ztF {ax e n:Nat}{t:Tr}{x y:Int}(hw:wfT (n:Int) t)(h:zae t x y≠0):0≤ds ax e n x y∧ds ax e n x y<p2 n:=by
 have:=zar t n x y hw h;unfold ds co;split <;> split <;> omega
theorem zhk {m:Nat}{t:Tr}{x y:Int}(hw:wfT ((m:Int)+1) t)(h:zae t x y≠0):∃i,i<4∧zae (t.q i) (x-offX m i) (y-offY m i)≠0:=by
 cases t with
 | e=>exact absurd rfl h
 | s k=>exact absurd hw.1 (by omega)
 | n v a b c d =>
  have hw':wfT (((m+1:Nat)):Int) (.n v a b c d):=hw;obtain⟨m',hm,rfl,ha,hb,hc,hd,_⟩:=wf_n hw';have:m=m':=by omega
  subst this;rw[zcq ha hb hc hd] at h;by_cases h0:zae a x y=0
  ·by_cases h1:zae b (x-p2 m) y=0
   ·by_cases h2:zae c x (y-p2 m)=0
    ·refine⟨3,by omega,?_⟩;show zae d (x-p2 m) (y-p2 m)≠0;omega
    ·refine⟨2,by omega,?_⟩;show zae c (x-0) (y-p2 m)≠0
     rwa [Int.sub_zero]
   ·refine⟨1,by omega,?_⟩;show zae b (x-p2 m) (y-0)≠0
    rwa [Int.sub_zero]
  ·refine⟨0,by omega,?_⟩;show zae a (x-0) (y-0)≠0
   rwa [Int.sub_zero,Int.sub_zero]
def EdS (ax e n:Nat)(O:Tr→Prop)(D:Int):Prop :=
 (∀t,O t→∀x y,zae t x y≠0→D≤ds ax e n x y)∧∃t x y,O t∧zae t x y≠0∧D=ds ax e n x y
theorem EdS.one {ax e n:Nat}{O:Tr→Prop}{D F:Int}(h:EdS ax e n O D)(k:EdS ax e n O F):D=F:=by
 obtain⟨t,x,y,h1,h2,h3⟩:=h.2;obtain⟨u,z,v,k1,k2,k3⟩:=k.2;have a:=h.1 u k1 z v k2;have b:=k.1 t h1 x y h2;omega
theorem EdS.in_ {ax e n:Nat}{O:Tr→Prop}{D:Int}(h:EdS ax e n O D)(hw:∀t,O t→wfT (n:Int) t):0≤D∧D<p2 n:=by
 obtain⟨t,x,y,h1,h2,h3⟩:=h.2;have:=ztF (ax:=ax) (e:=e) (hw t h1) h2;omega
theorem EdS.of {ax e n:Nat}{O M:Tr→Prop}{D:Int}(h:EdS ax e n O D)(k:∀t,O t↔M t):EdS ax e n M D :=
 ⟨fun t ht=>h.1 t ((k t).2 ht),by
  obtain⟨t,x,y,h1,h2⟩:=h.2;exact⟨t,x,y,(k t).1 h1,h2⟩⟩
def kidS (ax e:Nat)(O:Tr→Prop)(u:Tr):Prop:=∃t i,O t∧i<4∧bitK ax i=e∧u=t.q i∧u≠.e
theorem zma {ax e m:Nat}{O:Tr→Prop}(hw:∀t,O t→wfT ((m:Int)+1) t):∀t,kidS ax e O t→wfT (m:Int) t:=by
 rintro u ⟨t,i,h1,-,-,rfl,-⟩;have h2:=wf_q (hw t h1) i
 rwa [show((m:Int)+1-1)=(m:Int) by omega] at h2
theorem zqJ (ax i:Nat)(hi:i<4):bitK ax i≤1:=by
 unfold bitK;split <;> omega
theorem zbi {t:Tr}{x y:Int}(h:zae t x y≠0):t≠.e:=fun e=>h (by rw[e];rfl)
theorem zwk {ax e m:Nat}{O:Tr→Prop}{D:Int}(hw:∀t,O t→wfT ((m:Int)+1) t)(he:e≤1)(h:EdS ax e m (kidS ax e O) D):EdS ax e (m+1) O D:=by
 have hr:=h.in_ (zma hw);refine⟨fun t ht x y hc=>?_,?_⟩
 ·obtain⟨i,hi,hk⟩:=zhk (hw t ht) hc;have e1:=zir (ax:=ax) (m:=m) hi he (x-offX m i) (y-offY m i);rw[Int.sub_add_cancel,Int.sub_add_cancel] at e1;rw[e1];unfold pen;split
  ·rename_i hb;have:=h.1 (t.q i) ⟨t,i,ht,hi,hb,rfl,zbi hk⟩ _ _ hk;omega
  ·have h2:=wf_q (hw t ht) i;rw[show((m:Int)+1-1)=(m:Int) by omega] at h2;have:=ztF (ax:=ax) (e:=e) h2 hk;omega
 ·obtain⟨u,x,y,⟨t,i,h1,hi,hb,rfl,-⟩,h2,h3⟩:=h.2;refine⟨t,x+offX m i,y+offY m i,h1,?_,?_⟩
  ·rw[zeQ (hw t h1) hi h2];exact h2
  ·rw[zir hi he,h3];unfold pen;rw[if_pos hb,Int.add_zero]
theorem zxK {ax e f m:Nat}{O:Tr→Prop}{D:Int}(hw:∀t,O t→wfT ((m:Int)+1) t)(he:e≤1)(hf:f=1-e)(hno:∀u,¬ kidS ax e O u)(h:EdS ax e m (kidS ax f O) D):EdS ax e (m+1) O (D+p2 m):=by
 refine⟨fun t ht x y hc=>?_,?_⟩
 ·obtain⟨i,hi,hk⟩:=zhk (hw t ht) hc;have e1:=zir (ax:=ax) (m:=m) hi he (x-offX m i) (y-offY m i);rw[Int.sub_add_cancel,Int.sub_add_cancel] at e1;rw[e1];unfold pen;split
  ·rename_i hb;exact absurd ⟨t,i,ht,hi,hb,rfl,zbi hk⟩ (hno (t.q i))
  ·rename_i hb;have h9:=zqJ ax i hi;have:=h.1 (t.q i) ⟨t,i,ht,hi,by omega,rfl,zbi hk⟩ _ _ hk;omega
 ·obtain⟨u,x,y,⟨t,i,h1,hi,hb,rfl,-⟩,h2,h3⟩:=h.2;refine⟨t,x+offX m i,y+offY m i,h1,?_,?_⟩
  ·rw[zeQ (hw t h1) hi h2];exact h2
  ·rw[zir hi he,h3];unfold pen;rw[if_neg (by omega)]
theorem zqK {ax e:Nat}{O:Tr→Prop}(hw:∀t,O t→wfT ((0:Nat):Int) t)(h:∃t,O t∧t≠.e):EdS ax e 0 O 0:=by
 refine⟨fun t ht x y hc=>(ztF (hw t ht) hc).1,?_⟩;obtain⟨t,h1,h2⟩:=h;obtain⟨x,y,h3⟩:=zbb t 0 (hw t h1) h2;refine⟨t,x,y,h1,h3,?_⟩;have h4:=ztF (ax:=ax) (e:=e) (hw t h1) h3;rw[zft] at h4;omega
theorem ztG {ax m:Nat}{O:Tr→Prop}(hw:∀t,O t→wfT ((m:Int)+1) t)(h:∃t,O t∧t≠.e){e:Nat}(he:e≤1)(hno:∀u,¬ kidS ax e O u):∃u,kidS ax (1-e) O u∧u≠.e:=by
 obtain⟨t,h1,h2⟩:=h;obtain⟨x,y,h3⟩:=zbb t (m+1) (hw t h1) h2;obtain⟨i,hi,hk⟩:=zhk (hw t h1) h3;have h9:=zqJ ax i hi;have hb:bitK ax i≠e:=fun hb=>hno _ ⟨t,i,h1,hi,hb,rfl,zbi hk⟩;exact⟨t.q i,⟨t,i,h1,hi,by omega,rfl,zbi hk⟩,zbi hk⟩
theorem zwl {ax e m:Nat}{t:Tr}(hw:wfT ((m:Int)+1) t)(he:e≤1)(f:Nat→Int)(hf:∀i,i<4→t.q i≠.e→EdS ax e m (fun u=>u=t.q i) (f i)){D:Int}(hle:∀i,i<4→t.q i≠.e→D≤f i+pen ax e m i)(hex:∃i,i<4∧t.q i≠.e∧D=f i+pen ax e m i):EdS ax e (m+1) (fun u=>u=t) D:=by
 refine⟨?_,?_⟩
 ·rintro _ rfl x y hc;obtain⟨i,hi,hk⟩:=zhk hw hc;have e1:=zir (ax:=ax) (m:=m) hi he (x-offX m i) (y-offY m i);rw[Int.sub_add_cancel,Int.sub_add_cancel] at e1;have h1:=(hf i hi (zbi hk)).1 _ rfl _ _ hk;have h2:=hle i hi (zbi hk);omega
 ·obtain⟨i,hi,hne,rfl⟩:=hex;obtain⟨u,x,y,h0,h2,h3⟩:=(hf i hi hne).2;have h0':u=t.q i:=h0;subst h0';refine⟨t,x+offX m i,y+offY m i,rfl,?_,?_⟩
  ·rw[zeQ hw hi h2];exact h2
  ·rw[zir hi he,h3]
structure BoxT (t:Tr)(n:Nat)(x y w h:Int):Prop where
 west:EdS 0 0 n (fun u=>u=t) (x+p2 (n-1))
 north:EdS 1 0 n (fun u=>u=t) (y+p2 (n-1))
 east:EdS 0 1 n (fun u=>u=t) (p2 n-w-(x+p2 (n-1)))
 south:EdS 1 1 n (fun u=>u=t) (p2 n-h-(y+p2 (n-1)))
theorem BoxT.one {t:Tr}{n:Nat}{x y w h x' y' w' h':Int}(a:BoxT t n x y w h)(b:BoxT t n x' y' w' h'):x=x'∧y=y'∧w=w'∧h=h':=by
 have h1:=a.west.one b.west;have h2:=a.north.one b.north;have h3:=a.east.one b.east;have h4:=a.south.one b.south;omega
theorem BoxT.cell {t:Tr}{n:Nat}{x y w h:Int}(a:BoxT t n x y w h)(hn:t.lv.toNat=n){X Y:Int}(hc:zax t X Y≠0):x≤X∧X≤x+w-1∧y≤Y∧Y≤y+h-1:=by
 unfold zax at hc;rw[hn] at hc;have h1:x+p2 (n-1)≤X+p2 (n-1):=a.west.1 t rfl _ _ hc;have h2:y+p2 (n-1)≤Y+p2 (n-1):=a.north.1 t rfl _ _ hc;have h3:p2 n-w-(x+p2 (n-1))≤p2 n-1-(X+p2 (n-1)):=a.east.1 t rfl _ _ hc;have h4:p2 n-h-(y+p2 (n-1))≤p2 n-1-(Y+p2 (n-1)):=a.south.1 t rfl _ _ hc;omega
theorem BoxT.touch {t:Tr}{n:Nat}{x y w h:Int}(a:BoxT t n x y w h)(hn:t.lv.toNat=n) :
  (∃X Y,zax t X Y≠0∧X=x)∧(∃X Y,zax t X Y≠0∧X=x+w-1)∧(∃X Y,zax t X Y≠0∧Y=y)∧∃X Y,zax t X Y≠0∧Y=y+h-1:=by
 have key:∀{ax e:Nat} {D:Int},EdS ax e n (fun u=>u=t) D→∃X Y,zax t X Y≠0∧D=ds ax e n (X+p2 (n-1)) (Y+p2 (n-1)):=by
  intro ax e D hD;obtain⟨u,X,Y,h0,h1,h2⟩:=hD.2;have h0':u=t:=h0;subst h0';refine⟨X-p2 (n-1),Y-p2 (n-1),?_,?_⟩
  ·unfold zax;rw[hn,Int.sub_add_cancel,Int.sub_add_cancel];exact h1
  ·rw[Int.sub_add_cancel,Int.sub_add_cancel];exact h2
 obtain⟨X1,Y1,c1,e1⟩:=key a.west;obtain⟨X2,Y2,c2,e2⟩:=key a.east;obtain⟨X3,Y3,c3,e3⟩:=key a.north;obtain⟨X4,Y4,c4,e4⟩:=key a.south;have f1:x+p2 (n-1)=X1+p2 (n-1):=e1;have f2:p2 n-w-(x+p2 (n-1))=p2 n-1-(X2+p2 (n-1)):=e2;have f3:y+p2 (n-1)=Y3+p2 (n-1):=e3;have f4:p2 n-h-(y+p2 (n-1))=p2 n-1-(Y4+p2 (n-1)):=e4;exact⟨⟨X1,Y1,c1,by omega⟩,⟨X2,Y2,c2,by omega⟩,⟨X3,Y3,c3,by omega⟩,⟨X4,Y4,c4,by omega⟩⟩
end Go.Proofs.YtbabbmdpgpcgjaaGreatDoor
