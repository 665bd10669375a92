import Derived.Test.YtbabbmdpgpcgjaaGreatDoorHClPj

set_option linter.unusedVariables false
set_option linter.unusedSimpArgs false
set_option maxRecDepth 100000
set_option maxHeartbeats 6400000
namespace Go.Proofs.YtbabbmdpgpcgjaaGreatDoor
open Nds
theorem zvx {c:Cl}{k:Nat}(h:inL c k=true):∀(d lv:Nat),lv+d=k→upL c lv≤k
 | 0,lv,e=>by
  obtain rfl:lv=k:=by omega
  rw[zeV h];exact Nat.le_refl _
 | d+1,lv,e=>by
  by_cases h9:lv≤1329
  ·cases hq:inL c lv with
   | true=>rw[zeV hq];omega
   | false=>rw[zeW h9 hq];exact zvx h d (lv+1) (by omega)
  ·rw[zjp h9];omega
theorem zny {k:Nat}:∀(l:List Cl) (lv:Nat),lv≤k→(∀c∈l,inL c k=true)→l.foldl (fun lv c=>upL c lv) lv≤k
 | [],lv,h,_=>h
 | c :: l,lv,h,hi=>zny l _ (zvx (hi c (by simp)) (k-lv) lv (by omega)) fun d hd=>hi d (by simp[hd])
theorem znz {l:List Cl}{k:Nat}(hk:1≤k)(h:∀c∈l,inL c k=true):zaJ l≤k:=zny l 1 hk h
theorem znA (h:Int):∀(l:List Cl) (x y:Int),lk (l.map (shC h)) x y=lk l (x-h) (y-h)
 | [],_,_=>rfl
 | c :: l,x,y=>by
  rw[List.map_cons];unfold lk;rw[znA h l x y];have e1:(shC h c).x=c.x+h:=rfl;have e2:(shC h c).y=c.y+h:=rfl;have e3:(shC h c).s=c.s:=rfl;by_cases hc:c.x=x-h∧c.y=y-h
  ·rw[if_pos hc,if_pos (by rw[e1,e2];omega),e3]
  ·rw[if_neg hc,if_neg (by rw[e1,e2];omega)]
theorem zwt (v:Int)(a b c d:Tr):mk v a b c d=.e∨mk v a b c d=.n v a b c d:=by
 unfold mk;split
 ·exact .inl rfl
 ·exact .inr rfl
theorem zrm {L:List Cl}(hs:Srt L)(hst:∀c∈L,1≤c.s∧c.s≤255){lv:Nat}(hlv:lv=zaJ L)(h9:lv≤1329){l':List Cv}(hp:(l'.map Cv.cn).Perm (L.map (shC (p2 (lv-1)))))(hb:HiB lv 0 0 l') :
  zaW L (enc (zaF lv l') []).1:=by
 obtain⟨m,rfl⟩:∃m,lv=m+1:=⟨lv-1,by have:=zvu hlv;omega⟩;rw[Nat.add_sub_cancel] at hp;have hun:(L.map (shC (p2 m))).Pairwise (fun a b=>¬ (a.x=b.x∧a.y=b.y)):=by
  rw[List.pairwise_map];refine(zfy hs).imp fun {a b} h e=>h ⟨?_,?_⟩
  ·have:=e.1;simp only[shC] at this;omega
  ·have:=e.2;simp only[shC] at this;omega
 have hun':=zlX hp.symm hun;have hst':∀v∈l',1≤v.st∧v.st≤255:=fun v hv=>by
  obtain⟨c,hc,e⟩:=List.mem_map.1 (hp.mem_iff.1 (List.mem_map_of_mem hv));have h1:=hst c hc;have h2:c.s=(v.st:Int):=congrArg Cl.s e;omega
 have hw:=zfe (m+1) l' h9 hst';have hc:∀x y,zae (zaF (m+1) l') x y=lk L (x-p2 m) (y-p2 m):=fun x y=>by
  rw[zhq (m+1) l' 0 0 h9 hst' hb hun',zwg hun' hun hp,znA];congr 1 <;> omega
 obtain⟨t,ht⟩:∃t,t=zaF (m+1) l':=⟨_,rfl⟩;have hf:t=.e∨∃a b c d,t=.n ((m:Int)+1) a b c d:=by
  rw[ht];rcases zwt ((m:Int)+1) (zaF m (l'.filter (inQ m 0))) (zaF m (l'.filter (inQ m 1))) (zaF m (l'.filter (inQ m 2))) (zaF m (l'.filter (inQ m 3))) with h|h
  ·exact .inl h
  ·exact .inr ⟨_,_,_,_,h⟩
 rw[←ht] at hw hc ⊢;have hM:∀x y,zax t x y=lk L x y:=fun x y=>by
  have h1:=hc (x+p2 m) (y+p2 m);rw[show x+p2 m-p2 m=x by omega,show y+p2 m-p2 m=y by omega] at h1;rw[←h1];rcases hf with rfl|⟨a,b,c,d,rfl⟩
  ·rfl
  ·unfold zax;have e:(Tr.n ((m:Int)+1) a b c d).lv.toNat-1=m:=by
    show((m:Int)+1).toNat-1=m;omega
   rw[e]
 refine⟨t,m+1,hw,fun k e=>?_,?_,rfl,hM⟩
 ·rcases hf with h|⟨a,b,c,d,h⟩ <;> rw[h] at e <;> cases e
 ·cases hh:holT t with
  | false=>rfl
  | true =>
   exfalso;obtain⟨h1,_⟩:=zcJ.1 hh;rcases hf with rfl|⟨a,b,c2,d,rfl⟩
   ·simp[Tr.lv] at h1
   ·have hl:((m:Int)+1)=(m:Int)+1:=rfl;have h1':1<(m:Int)+1:=h1;obtain⟨k,rfl⟩:∃k,m=k+1:=⟨m-1,by omega⟩;have hwi:=zqc hw hh;have hni:wfT ((k+1:Nat):Int) (innT (.n (((k+1:Nat):Int)+1) a b c2 d)):=by
     rwa [show(((k+1+1:Nat):Int)-1)=((k+1:Nat):Int) by omega] at hwi
    have hle:=znz (l:=L) (k:=k+1) (by omega) fun c hcL=>by
     have h2:=zhf (zfy hs) hcL;have h3:=(hst c hcL).1;have h4:=zkp hw hh c.x c.y;rw[hM,h2] at h4;have hlv:(innT (.n (((k+1:Nat):Int)+1) a b c2 d)).lv.toNat-1=k:=by
      rcases zkn (.n (((k+1:Nat):Int)+1) a b c2 d) with e|e
      ·exact absurd e (zvh hw hh)
      ·rw[e];show((((k+1:Nat):Int)+1)-1).toNat-1=k;omega
     unfold zax at h4;rw[hlv] at h4;have h5:=zar _ (k+1) _ _ hni (by rw[h4];omega);have h6:=zap k;unfold inL inH;simp only[Bool.and_eq_true,decide_eq_true_eq,Nat.add_sub_cancel];omega
    omega
theorem OfC.quad {l:List Cv}{out:List Nd}{er:Int}(h:OfC l out er)(hok:l.all okC=true)(hst:∀v∈l,v.st≤255)(h9:zaJ (zaR (l.map Cv.cl))≤1329):er=0∧zaW (zaR (l.map Cv.cl)) out:=by
 obtain⟨e,l',rfl,hp,hb⟩:=(h.2 hok).2 h9;refine⟨e,zrm (zdH _) (zfx fun c hc=>?_).1 rfl h9 hp hb⟩;obtain⟨v,hv,rfl⟩:=List.mem_map.1 hc;have:=hst v hv;show 0≤(v.st:Int)∧(v.st:Int)≤255;omega
end Go.Proofs.YtbabbmdpgpcgjaaGreatDoor

namespace Go.Proofs.YtbabbmdpgpcgjaaGreatDoor
open Go.RowKit Num
def inI (x:Int):Bool:=decide (-9223372036854775808≤x∧x≤9223372036854775807)
def outI (x:Int):Int:=if inI x=true then x else 0
theorem zjz {x:Int}(h : -9223372036854775808≤x∧x≤9223372036854775807):inI x=true∧outI x=x:=by
 have:inI x=true:=decide_eq_true h;exact⟨this,by unfold outI;rw[if_pos this]⟩
theorem zkO {x:Int}(h:¬ (-9223372036854775808≤x∧x≤9223372036854775807)):inI x=false∧outI x=0:=by
 have:inI x=false:=decide_eq_false h;exact⟨this,by unfold outI;rw[this];rfl⟩
theorem zjA (n:Int)(w:World) :
  Calls Tryz.prog 185 #[.int .i64 n,.bool true] w fun e w'=>e=.returned (.tuple #[.int .i64 n,.bool true])∧w=w':=by
 go_enter Tryz.func185,Tryz.ntmps185;go_wp2;go_ret2;exact⟨rfl,rfl⟩
theorem zrn (n:Int)(w:World) :
  Calls Tryz.prog 185 #[.int .i64 n,.bool false] w fun e w'=>e=.returned (.tuple #[.int .i64 0,.bool false])∧w=w':=by
 go_enter Tryz.func185,Tryz.ntmps185;go_wp2;go_ret2;exact⟨rfl,rfl⟩
theorem znB (v:Nat)(w:World) :
  Calls Tryz.prog 185 #[.int .i64 (wrap64 (v:Int)),.bool (decide ((v:Int)≤9223372036854775807))] w fun e w'=>e=.returned (.tuple #[.int .i64 (outI v),.bool (inI v)])∧w=w':=by
 by_cases h:(v:Int)≤9223372036854775807
 ·obtain⟨h1,h2⟩:=zjz (x:=v) ⟨by omega,h⟩;rw[decide_eq_true h,h1,h2,IntWalk.wrap64_in _ ⟨by omega,h⟩];exact zjA _ w
 ·obtain⟨h1,h2⟩:=zkO (x:=v) (by omega);rw[decide_eq_false h,h1,h2];exact zrn _ w
theorem znC (v:Nat)(w:World) :
  Calls Tryz.prog 185 #[.int .i64 (wrap64 (-wrap64 (v:Int))),.bool (decide ((v:Int)≤9223372036854775808))] w fun e w'=>e=.returned (.tuple #[.int .i64 (outI (-v)),.bool (inI (-v))])∧w=w':=by
 by_cases h:(v:Int)≤9223372036854775808
 ·obtain⟨h1,h2⟩:=zjz (x := -v) ⟨by omega,by omega⟩;have e:wrap64 (-wrap64 (v:Int)) = -v:=by unfold wrap64;omega
  rw[decide_eq_true h,h1,h2,e];exact zjA _ w
 ·obtain⟨h1,h2⟩:=zkO (x := -v) (by omega);rw[decide_eq_false h,h1,h2];exact zrn _ w
theorem zht (a:Nat)(ha:a<4294967296):bits .or .u64 0 (a:Int)=(a:Int):=by
 have e:=u64_or_nat 0 a (by decide) (by omega);rw[Nat.zero_or] at e;exact e
theorem zoF (a b:Nat)(ha:a<4294967296)(hb:b<4294967296):bits .or .u64 (bits .or .u64 0 (a:Int)) ((b:Int)*4294967296)=((val [a,b]:Nat):Int):=by
 have e:=u64_or_nat a (b*4294967296) (by omega) (by omega);rw[zht a ha,show((b:Int)*4294967296)=((b*4294967296:Nat):Int) by simp,e];rw[Nat.or_comm,nat_join 32 _ _ (by simp) ha];simp only[val];omega
theorem ztT (s:Bool)(A:Option Addr)(c:Nat)(a b:Nat)(w:World)(h:Us w A c [a,b]) :
  Calls Tryz.prog 151 #[.agg #[.bool s,.slice A 2 c]] w fun e w'=>e=.returned (.tuple #[.int .i64 (outI (ival s [a,b])),.bool (inI (ival s [a,b]))])∧Below w.heap.size w w':=by
 obtain⟨hX,hB⟩:=box1 w (.bool s) (.slice A 2 c) 69;have h1:=h.below hB;obtain⟨g,off,rfl,hg,hc⟩:=h1.at_ (by simp)
 have c0:=hc 0 (by simp);have c1:=hc 1 (by simp);simp only[List.getElem?_cons_zero,List.getElem?_cons_succ,Option.getD_some,Nat.add_zero] at c0 c1;have ha:=h.1.head;have hb:=h.1.tail.head;have HB:=Hh hB;clear hc h h1 hX hB;unfold ival;have HE:=Hh (zoF a b ha hb);generalize val [a,b]=v at *;go_enter Tryz.func151,Tryz.ntmps151;go_wp2_with fail;refine wp_loop_rounds 3 ?_;rw[rounds_succ];go_wp2_with fail;rw[rounds_succ];go_wp2_with fail;rw[rounds_succ];cases s
 ·go_wp2_with (go_at_call 185;rw[HE.out];refine(znB v _).mono ?_;rintro e w' ⟨rfl,rfl⟩);go_ret2;exact⟨rfl,HB.out⟩
 ·go_wp2_with (go_at_call 185;rw[HE.out];refine(znC v _).mono ?_;rintro e w' ⟨rfl,rfl⟩);go_ret2;exact⟨rfl,HB.out⟩
theorem ztU (s:Bool)(A:Option Addr)(c:Nat)(a:Nat)(w:World)(h:Us w A c [a]) :
  Calls Tryz.prog 151 #[.agg #[.bool s,.slice A 1 c]] w fun e w'=>e=.returned (.tuple #[.int .i64 (outI (ival s [a])),.bool (inI (ival s [a]))])∧Below w.heap.size w w':=by
 obtain⟨hX,hB⟩:=box1 w (.bool s) (.slice A 1 c) 69;have h1:=h.below hB;obtain⟨g,off,rfl,hg,hc⟩:=h1.at_ (by simp)
 have c0:=hc 0 (by simp);simp only[List.getElem?_cons_zero,List.getElem?_cons_succ,Option.getD_some,Nat.add_zero] at c0;have ha:=h.1.head;have HB:=Hh hB;clear hc h h1 hX hB;have ev:val [a]=a:=by simp[val]
 unfold ival;rw[ev];have HE:=Hh (zht a ha);clear ev;go_enter Tryz.func151,Tryz.ntmps151;go_wp2_with fail;refine wp_loop_rounds 2 ?_;rw[rounds_succ];go_wp2_with fail;rw[rounds_succ];cases s
 ·go_wp2_with (go_at_call 185;rw[HE.out];refine(znB a _).mono ?_;rintro e w' ⟨rfl,rfl⟩);go_ret2;exact⟨rfl,HB.out⟩
 ·go_wp2_with (go_at_call 185;rw[HE.out];refine(znC a _).mono ?_;rintro e w' ⟨rfl,rfl⟩);go_ret2;exact⟨rfl,HB.out⟩
theorem zro (s:Bool)(A:Option Addr)(c:Nat)(w:World) :
  Calls Tryz.prog 151 #[.agg #[.bool s,.slice A 0 c]] w fun e w'=>e=.returned (.tuple #[.int .i64 (outI 0),.bool (inI 0)])∧Below w.heap.size w w':=by
 obtain⟨hX,hB⟩:=box1 w (.bool s) (.slice A 0 c) 69;have HB:=Hh hB;clear hX hB;go_enter Tryz.func151,Tryz.ntmps151;go_wp2_with fail;refine wp_loop_rounds 1 ?_;rw[rounds_succ];cases s
 all_goals
  go_wp2_with (go_at_call 185;refine(zjA 0 _).mono ?_;rintro e w' ⟨rfl,rfl⟩);go_ret2;exact⟨rfl,HB.out⟩
theorem zrp (s:Bool)(A:Option Addr)(c n:Nat)(w:World)(hn:2<n)(hc:n≤9223372036854775807) :
  Calls Tryz.prog 151 #[.agg #[.bool s,.slice A n c]] w fun e w'=>e=.returned (.tuple #[.int .i64 0,.bool false])∧Below w.heap.size w w':=by
 obtain⟨hX,hB⟩:=box1 w (.bool s) (.slice A n c) 69;have HB:=Hh hB;clear hX hB;go_enter Tryz.func151,Tryz.ntmps151;go_wp2_with fail;go_ret2;exact⟨rfl,HB.out⟩
theorem znD (s:Bool)(A:Option Addr)(c:Nat)(xs:List Nat)(w:World)(h:Us w A c xs)(hc:zaS xs) :
  Calls Tryz.prog 151 #[.agg #[.bool s,.slice A xs.length c]] w fun e w'=>e=.returned (.tuple #[.int .i64 (outI (ival s xs)),.bool (inI (ival s xs))])∧Below w.heap.size w w':=by
 rcases xs with _|⟨a,_|⟨b,_|⟨d,r⟩⟩⟩
 ·rw[zfZ];exact zro s A c w
 ·exact ztU s A c a w h
 ·exact ztT s A c a b w h
 ·have hge:=zeC hc (by simp);have h2:(4294967296:Nat)^2≤4294967296^((a :: b :: d :: r).length-1):=Nat.pow_le_pow_right (by decide) (by simp);have hv:=zeJ s (a :: b :: d :: r);obtain⟨h1,h2⟩:=zkO (x:=ival s (a :: b :: d :: r)) (by omega);rw[h1,h2];exact zrp s A c _ w (by simp) (by have:=h.cap;omega)
end Go.Proofs.YtbabbmdpgpcgjaaGreatDoor

namespace Go.Proofs.YtbabbmdpgpcgjaaGreatDoor
open Nds
def zcf (t:Tr)(u v:Int)(M:Int→Int→Int):Int→Int→Int:=fun r c=>if zae t (c-u) (r-v)=0 then M r c else zae t (c-u) (r-v)
theorem zwu (u v:Int)(M:Int→Int→Int):zcf .e u v M=M:=by
 funext r c;unfold zcf;rw[zbE,if_pos rfl]
theorem ztV {k:Int}(hk:k≠0)(u v:Int)(M:Int→Int→Int):zcf (st k) u v M=fun r c=>if r=v∧c=u then k else M r c:=by
 funext r c;unfold zcf st;rw[if_neg hk];unfold zae;by_cases h:r=v∧c=u
 ·rw[if_pos (show c-u=0∧r-v=0 by omega),if_neg hk,if_pos h]
 ·rw[if_neg (show ¬ (c-u=0∧r-v=0) by omega),if_pos rfl,if_neg h]
theorem ztW {m:Nat}{a b c d:Tr}(ha:wfT (m:Int) a)(hb:wfT (m:Int) b)(hc:wfT (m:Int) c)(hd:wfT (m:Int) d)(u v:Int)(M:Int→Int→Int) :
  zcf (mk ((m:Int)+1) a b c d) u v M=zcf d (u+p2 m) (v+p2 m) (zcf c u (v+p2 m) (zcf b (u+p2 m) v (zcf a u v M))):=by
 funext y x;unfold zcf;rw[zdC ha hb hc hd,show x-u-p2 m=x-(u+p2 m) by omega,show y-v-p2 m=y-(v+p2 m) by omega];have ia:=zar a m (x-u) (y-v) ha;have ib:=zar b m (x-(u+p2 m)) (y-v) hb;have ic:=zar c m (x-u) (y-(v+p2 m)) hc;have id:=zar d m (x-(u+p2 m)) (y-(v+p2 m)) hd;revert ia ib ic id;generalize zae a (x-u) (y-v)=ka;generalize zae b (x-(u+p2 m)) (y-v)=kb;generalize zae c (x-u) (y-(v+p2 m))=kc;generalize zae d (x-(u+p2 m)) (y-(v+p2 m))=kd;intro ia ib ic id;by_cases h3:kd=0
 ·by_cases h2:kc=0
  ·by_cases h1:kb=0
   ·subst h1 h2 h3;simp only[Int.add_zero,if_true]
   ·have z0:ka=0:=Classical.byContradiction fun h=>by have:=ia h;have:=ib h1;omega
    subst z0 h2 h3;simp only[Int.add_zero,Int.zero_add,if_true,if_neg h1]
  ·have z0:ka=0:=Classical.byContradiction fun h=>by have:=ia h;have:=ic h2;omega
   have z1:kb=0:=Classical.byContradiction fun h=>by have:=ib h;have:=ic h2;omega
   subst z0 z1 h3;simp only[Int.add_zero,Int.zero_add,if_true,if_neg h2]
 ·have z0:ka=0:=Classical.byContradiction fun h=>by have:=ia h;have:=id h3;omega
  have z1:kb=0:=Classical.byContradiction fun h=>by have:=ib h;have:=id h3;omega
  have z2:kc=0:=Classical.byContradiction fun h=>by have:=ic h;have:=id h3;omega
  subst z0 z1 z2;simp only[Int.zero_add,if_neg h3]
def InP (t:Tr)(u v:Int)(wide high:Nat):Prop:=∀x y,zae t x y≠0→0≤u+x∧u+x<wide∧0≤v+y∧v+y<high
theorem zyc {k:Int}(hk:k≠0){u v:Int}{wide high:Nat}(h:InP (st k) u v wide high):0≤u∧u<wide∧0≤v∧v<high:=by
 have:=h 0 0 (by unfold st;rw[if_neg hk];exact hk);omega
theorem zyd {m:Nat}{a b c d:Tr}(ha:wfT (m:Int) a)(hb:wfT (m:Int) b)(hc:wfT (m:Int) c)(hd:wfT (m:Int) d){u v:Int}{wide high:Nat}(h:InP (mk ((m:Int)+1) a b c d) u v wide high) :
  InP a u v wide high∧InP b (u+p2 m) v wide high∧InP c u (v+p2 m) wide high∧InP d (u+p2 m) (v+p2 m) wide high:=by
 refine⟨fun x y k=>?_,fun x y k=>?_,fun x y k=>?_,fun x y k=>?_⟩
 ·have i:=zar a m x y ha k;refine h x y ?_;rw[zdC ha hb hc hd,zat hb (by omega),zat hc (by omega),zat hd (by omega),Int.add_zero,Int.add_zero,Int.add_zero];exact k
 ·have i:=zar b m x y hb k;have:=h (x+p2 m) y (by
   rw[zdC ha hb hc hd,zat ha (by omega),zat hc (by omega),zat hd (by omega),Int.add_zero,Int.add_zero,Int.zero_add,show x+p2 m-p2 m=x by omega];exact k)
  omega
 ·have i:=zar c m x y hc k;have:=h x (y+p2 m) (by
   rw[zdC ha hb hc hd,zat ha (by omega),zat hb (by omega),zat hd (by omega),Int.add_zero,Int.add_zero,Int.zero_add,show y+p2 m-p2 m=y by omega];exact k)
  omega
 ·have i:=zar d m x y hd k;have:=h (x+p2 m) (y+p2 m) (by
   rw[zdC ha hb hc hd,zat ha (by omega),zat hb (by omega),zat hc (by omega),Int.add_zero,Int.add_zero,Int.zero_add,show x+p2 m-p2 m=x by omega,show y+p2 m-p2 m=y by omega];exact k)
  omega
theorem znE {u:Int}(h:0≤u∧u<1000):u%4294967296=u:=by omega
theorem zmf (t:Tr)(u v r c:Int):zcf t u v (fun _ _=>0) r c=zae t (c-u) (r-v):=by
 unfold zcf;split
 ·rename_i h;rw[h]
 ·rfl
def rowC (M:Int→Int→Int)(X Y:Int)(k wide:Nat):List Cl:=(List.range wide).filterMap fun(i:Nat)=>if M k i=0 then none else some ⟨X+i,Y+k,M k i⟩
def picL (M:Int→Int→Int)(X Y:Int)(wide high:Nat):List Cl:=(List.range high).flatMap fun k=>rowC M X Y k wide
theorem zrq (M:Int→Int→Int)(X Y:Int)(k:Nat):rowC M X Y k 0=[]:=rfl
theorem zdK (M:Int→Int→Int)(X Y:Int)(k wide:Nat):rowC M X Y k (wide+1)=rowC M X Y k wide++if M k wide=0 then [] else [⟨X+wide,Y+k,M k wide⟩]:=by
 unfold rowC;rw[List.range_succ,List.filterMap_append];congr 1;by_cases h:M k wide=0
 ·simp[h]
 ·simp[h]
theorem zrr (M:Int→Int→Int)(X Y:Int)(wide:Nat):picL M X Y wide 0=[]:=rfl
theorem zff (M:Int→Int→Int)(X Y:Int)(wide high:Nat):picL M X Y wide (high+1)=picL M X Y wide high++rowC M X Y high wide:=by
 unfold picL;rw[List.range_succ,List.flatMap_append,List.flatMap_cons,List.flatMap_nil,List.append_nil]
theorem zgq {M:Int→Int→Int}{X Y:Int}{k wide:Nat}{c:Cl}:c∈rowC M X Y k wide↔∃i:Nat,i<wide∧M k i≠0∧c=⟨X+i,Y+k,M k i⟩:=by
 unfold rowC;rw[List.mem_filterMap];refine⟨fun⟨i,h1,h2⟩=>?_,fun⟨i,h1,h2,h3⟩=>⟨i,List.mem_range.2 h1,by rw[if_neg h2,h3]⟩⟩;by_cases h:M k i=0
 ·rw[if_pos h] at h2;cases h2
 ·rw[if_neg h] at h2;exact⟨i,List.mem_range.1 h1,h,(Option.some.inj h2).symm⟩
theorem zcg {M:Int→Int→Int}{X Y:Int}{wide high:Nat}{c:Cl}:c∈picL M X Y wide high↔∃k i:Nat,k<high∧i<wide∧M k i≠0∧c=⟨X+i,Y+k,M k i⟩:=by
 unfold picL;rw[List.mem_flatMap];refine⟨fun⟨k,h1,h2⟩=>?_,fun⟨k,i,h1,h2,h3,h4⟩=>⟨k,List.mem_range.2 h1,zgq.2 ⟨i,h2,h3,h4⟩⟩⟩;obtain⟨i,h3,h4,h5⟩:=zgq.1 h2;exact⟨k,i,List.mem_range.1 h1,h3,h4,h5⟩
theorem znF (M:Int→Int→Int)(X Y:Int)(k:Nat):∀wide,Srt (rowC M X Y k wide)
 | 0=>List.Pairwise.nil
 | wide+1=>by
  rw[zdK];refine List.pairwise_append.2 ⟨znF M X Y k wide,?_,fun a ha b hb=>?_⟩
  ·split
   ·exact List.Pairwise.nil
   ·exact List.pairwise_singleton _ _
  ·obtain⟨i,h1,_,rfl⟩:=zgq.1 ha;split at hb
   ·cases hb
   ·rw[List.mem_singleton.1 hb];refine .inr ⟨rfl,?_⟩;show X+(i:Int)<X+(wide:Int);omega
theorem zcE (M:Int→Int→Int)(X Y:Int)(wide:Nat):∀high,Srt (picL M X Y wide high)
 | 0=>List.Pairwise.nil
 | high+1=>by
  rw[zff];refine List.pairwise_append.2 ⟨zcE M X Y wide high,znF _ _ _ _ _,fun a ha b hb=>?_⟩;obtain⟨k,i,h1,_,_,rfl⟩:=zcg.1 ha;obtain⟨j,_,_,rfl⟩:=zgq.1 hb;refine .inl ?_;show Y+(k:Int)<Y+(high:Int);omega
theorem zhu {M:Int→Int→Int}{X Y:Int}{wide high:Nat}:∀c∈picL M X Y wide high,c.s≠0:=fun c hc=>by
 obtain⟨k,i,_,_,h,rfl⟩:=zcg.1 hc;exact h
theorem zjB (M:Int→Int→Int)(X Y:Int)(wide high:Nat)(x y:Int):lk (picL M X Y wide high) x y=if 0≤x-X∧x-X<wide∧0≤y-Y∧y-Y<high then M (y-Y) (x-X) else 0:=by
 by_cases h:0≤x-X∧x-X<wide∧0≤y-Y∧y-Y<high
 ·rw[if_pos h];have e1:(((y-Y).toNat:Nat):Int)=y-Y:=by omega
  have e2:(((x-X).toNat:Nat):Int)=x-X:=by omega
  by_cases h0:M (y-Y) (x-X)=0
  ·rw[h0];refine zbr fun c hc=>?_;obtain⟨k,i,_,_,h1,rfl⟩:=zcg.1 hc;intro he;have a1:X+(i:Int)=x:=he.1;have a2:Y+(k:Int)=y:=he.2;refine h1 ?_;rw[show(k:Int)=y-Y by omega,show(i:Int)=x-X by omega];exact h0
  ·have hm:(⟨x,y,M (y-Y) (x-X)⟩:Cl)∈picL M X Y wide high:=zcg.2 ⟨(y-Y).toNat,(x-X).toNat,by omega,by omega,by rw[e1,e2];exact h0,by
    rw[e1,e2,show X+(x-X)=x by omega,show Y+(y-Y)=y by omega]⟩
   exact zgY (zcE M X Y wide high) hm
 ·rw[if_neg h];refine zbr fun c hc=>?_;obtain⟨k,i,h1,h2,_,rfl⟩:=zcg.1 hc;intro he;have a1:X+(i:Int)=x:=he.1;have a2:Y+(k:Int)=y:=he.2;exact h (by omega)
theorem ztX {M:Int→Int→Int}{X Y:Int}{wide high:Nat}{L:List Cl}(hL:Srt L)(h0:∀c∈L,c.s≠0)
  (h:∀x y,lk L x y=if 0≤x-X∧x-X<wide∧0≤y-Y∧y-Y<high then M (y-Y) (x-X) else 0):picL M X Y wide high=L :=
 zed (zcE M X Y wide high) hL zhu h0 fun x y=>by rw[zjB,h]
theorem zjC (M:Int→Int→Int)(X Y U V:Int)(wide:Nat):∀high,(picL M X Y wide high).map (fun c=>(⟨c.x+U,c.y+V,c.s⟩:Cl))=picL M (X+U) (Y+V) wide high:=fun high=>by
 unfold picL rowC;rw[List.map_flatMap];congr 1;funext k;rw[List.map_filterMap];congr 1;funext i;by_cases h:M k i=0
 ·simp[h]
 ·simp[h];omega
end Go.Proofs.YtbabbmdpgpcgjaaGreatDoor

namespace Go.Proofs.YtbabbmdpgpcgjaaGreatDoor
open Go.RowKit
def rowV (R:Nat→Nat)(wide j k:Nat):Value:=if k<j then .slice (some ⟨R k,0,none⟩) wide wide else .slice none 0 0
def zdL (M:Int→Int→Int)(k wide:Nat):List Value:=(List.range wide).map fun(i:Nat)=>.int .u8 (M k i)
structure PicR (tB tR:TypeId)(base g wide high j:Nat)(R:Nat→Nat)(M:Int→Int→Int)(W:World):Prop where
 rows:W.ownsRow base tR 1 (.slice (some ⟨g,0,none⟩) high high) high ((List.range high).map (rowV R wide j))
 row:∀k,k<j→W.ownsRow base tB 1 (.slice (some ⟨R k,0,none⟩) wide wide) wide (zdL M k wide)
 inj:∀a b,a<j→b<j→R a=R b→a=b
 off:∀k,k<j→R k≠g
variable {tB tR:TypeId} {base g wide high j:Nat} {R:Nat→Nat} {M:Int→Int→Int} {W:World}
theorem gbX {w w':World}(h:Below w.heap.size w w'):w.grownBy w' none:=⟨h.os,h.tape,h.output,h.size,fun k hk _=>h.block k hk⟩
theorem zgr {k i:Nat}(h:i<wide):(zdL M k wide)[i]?=some (.int .u8 (M k i)):=by
 unfold zdL;rw[List.getElem?_map,List.getElem?_range h];rfl
theorem PicR.rowAt (h:PicR tB tR base g wide high j R M W){k:Nat}(hk:k<high):W.cell? ⟨g,k,none⟩=some (rowV R wide j k):=by
 rw[h.rows.cellAt k (by omega),List.getElem?_map,List.getElem?_range hk];rfl
theorem PicR.at_ (h:PicR tB tR base g wide high j R M W){k:Nat}(hk:k<high)(hj:k<j):W.cell? ⟨g,k,none⟩=some (.slice (some ⟨R k,0,none⟩) wide wide):=by
 rw[h.rowAt hk];unfold rowV;rw[if_pos hj]
theorem PicR.get (h:PicR tB tR base g wide high j R M W){k i:Nat}(hk:k<j)(hi:i<wide):W.cell? ⟨R k,i,none⟩=some (.int .u8 (M k i)):=by
 rw[(h.row k hk).cellAt i (by omega),zgr hi]
theorem PicR.free (h:PicR tB tR base g wide high j R M W){k:Nat}(hk:k<j)(i:Nat):W.frozen? ⟨R k,i,none⟩=false:=(h.row k hk).frozenAt i
theorem PicR.freeG (h:PicR tB tR base g wide high j R M W)(i:Nat):W.frozen? ⟨g,i,none⟩=false:=h.rows.frozenAt i
theorem PicR.ltG (h:PicR tB tR base g wide high j R M W):base≤g∧g<W.heap.size:=h.rows.lt g rfl
theorem PicR.ltR (h:PicR tB tR base g wide high j R M W){k:Nat}(hk:k<j):base≤R k∧R k<W.heap.size:=(h.row k hk).lt (R k) rfl
theorem PicR.next (h:PicR tB tR base g wide high j R M W){W':World}(b:Below W.heap.size W W'):PicR tB tR base g wide high j R M W' :=
 ⟨h.rows.kept (gbX b) (.inr (by simp[Value.ownBlock])),fun k hk=>(h.row k hk).kept (gbX b) (.inr (by simp[Value.ownBlock])),h.inj,h.off⟩
theorem PicR.other (h:PicR tB tR base g wide high j R M W){p:Addr}(hg:p.block≠g)(hr:∀k,k<j→p.block≠R k)(u:Value):PicR tB tR base g wide high j R M (W.setCell p u):=by
 have key:W.grownBy (W.setCell p u) (some p.block):=⟨rfl,rfl,rfl,by simp[World.setCell],fun k _ hk=>heap_setCell_other W p k u (fun e=>hk (by simp[e]))⟩;exact⟨h.rows.kept key (.inr (by simpa [Value.ownBlock] using fun e=>hg e.symm)),fun k hk=>(h.row k hk).kept key (.inr (by simpa [Value.ownBlock] using fun e=>hr k hk e.symm)),h.inj,h.off⟩
theorem PicR.set (h:PicR tB tR base g wide high j R M W){k i:Nat}(hk:k<j)(hi:i<wide)(s:Int) :
  PicR tB tR base g wide high j R (fun r c=>if r=k∧c=i then s else M r c) (W.setCell ⟨R k,i,none⟩ (.int .u8 s)):=by
 obtain⟨h1,h2⟩:=(h.row k hk).stored i (.int .u8 s);refine⟨h.rows.kept h2 (.inr (by simpa [Value.ownBlock] using fun e=>h.off k hk e.symm)),fun a ha=>?_,h.inj,h.off⟩;by_cases e:a=k
 ·subst e;have e2:zdL (fun r c=>if r=(a:Int)∧c=(i:Int) then s else M r c) a wide=(zdL M a wide).set i (.int .u8 s):=by
   refine List.ext_getElem? fun t=>?_;by_cases ht:t<wide
   ·rw[zgr ht,List.getElem?_set];by_cases hit:i=t
    ·subst hit;rw[if_pos rfl,if_pos (show i<(zdL M a wide).length by unfold zdL;rw[List.length_map,List.length_range];exact ht)];simp
    ·rw[if_neg hit,zgr ht,if_neg (by omega)]
   ·rw[List.getElem?_eq_none (by simp[zdL];omega),List.getElem?_eq_none (by simp[zdL];omega)]
  rw[e2];exact h1
 ·have e2:zdL (fun r c=>if r=(k:Int)∧c=(i:Int) then s else M r c) a wide=zdL M a wide:=by
   unfold zdL;refine List.map_congr_left fun t _=>?_;show Value.int .u8 (if (a:Int)=k∧(t:Int)=i then s else M a t)=_;rw[if_neg (by omega)]
  rw[e2];exact(h.row a ha).kept h2 (.inr (by simpa [Value.ownBlock] using fun e3=>e (h.inj a k ha hk e3)))
theorem PicR.more (h:PicR tB tR base g wide high j R (fun _ _=>0) W)(hj:j<high){W':World}{r:Nat}(b:Below W.heap.size W W')(hr:W.heap.size≤r)
  (ho:W'.ownsRow base tB 1 (.slice (some ⟨r,0,none⟩) wide wide) wide (List.replicate wide (.int .u8 0))) :
  PicR tB tR base g wide high (j+1) (fun k=>if k=j then r else R k) (fun _ _=>0) (W'.setCell ⟨g,j,none⟩ (.slice (some ⟨r,0,none⟩) wide wide)):=by
 have h':=h.next b;obtain⟨h1,h2⟩:=h'.rows.stored j (.slice (some ⟨r,0,none⟩) wide wide);have hg:=h.ltG;refine⟨?_,fun k hk=>?_,fun a b2 ha hb he=>?_,fun k hk=>?_⟩
 ·have e:(List.range high).map (rowV (fun k=>if k=j then r else R k) wide (j+1))=((List.range high).map (rowV R wide j)).set j (.slice (some ⟨r,0,none⟩) wide wide):=by
   refine List.ext_getElem? fun t=>?_;by_cases ht:t<high
   ·rw[List.getElem?_map,List.getElem?_range ht,List.getElem?_set];by_cases hjt:j=t
    ·subst hjt;rw[if_pos rfl,if_pos (by simpa using ht)];show some (rowV _ wide (j+1) j)=_;unfold rowV;rw[if_pos (by omega)];simp
    ·rw[if_neg hjt,List.getElem?_map,List.getElem?_range ht];show some (rowV _ wide (j+1) t)=some (rowV R wide j t);unfold rowV;by_cases hlt:t<j
     ·rw[if_pos (by omega),if_pos hlt];simp[show ¬ t=j by omega]
     ·rw[if_neg (by omega),if_neg hlt]
   ·rw[List.getElem?_eq_none (by simpa using ht),List.getElem?_eq_none (by simpa using ht)]
  rw[e];exact h1
 ·by_cases e:k=j
  ·subst e;simp only[if_true];have e2:zdL (fun _ _=>0) k wide=List.replicate wide (.int .u8 0):=by
    unfold zdL;refine List.ext_getElem? fun t=>?_;by_cases ht:t<wide
    ·rw[List.getElem?_map,List.getElem?_range ht,List.getElem?_replicate,if_pos ht];rfl
    ·rw[List.getElem?_eq_none (by simpa using ht),List.getElem?_eq_none (by simpa using ht)]
   rw[e2];exact ho.kept h2 (.inr (by simp[Value.ownBlock];omega))
  ·simp only[if_neg e];exact(h'.row k (by omega)).kept h2 (.inr (by have:=h.off k (by omega);simpa [Value.ownBlock] using this))
 ·by_cases e1:a=j
  ·by_cases e2:b2=j
   ·omega
   ·simp only[if_pos e1,if_neg e2] at he;have:=h.ltR (k:=b2) (by omega);omega
  ·by_cases e2:b2=j
   ·simp only[if_neg e1,if_pos e2] at he;have:=h.ltR (k:=a) (by omega);omega
   ·simp only[if_neg e1,if_neg e2] at he;exact h.inj a b2 (by omega) (by omega) he
 ·by_cases e:k=j
  ·simp only[if_pos e];omega
  ·simp only[if_neg e];exact h.off k (by omega)
end Go.Proofs.YtbabbmdpgpcgjaaGreatDoor

namespace Go.Proofs.YtbabbmdpgpcgjaaGreatDoor
def strM (M:Int→Int→Int)(k wide:Nat):List UInt8:=(List.range wide).map fun(i:Nat)=>UInt8.ofNat (M k i).toNat
def zbv (M:Int→Int→Int)(wide high:Nat):List (List UInt8):=(List.range high).map fun k=>strM M k wide
def picS (rows:List (List UInt8)):Int→Int→Int:=fun r c=>(((rows.getD r.toNat []).getD c.toNat 0).toNat:Int)
theorem zbP (M:Int→Int→Int)(k wide:Nat):(strM M k wide).length=wide:=by
 unfold strM;rw[List.length_map,List.length_range]
theorem zcW (M:Int→Int→Int)(wide high:Nat):(zbv M wide high).length=high:=by
 unfold zbv;rw[List.length_map,List.length_range]
theorem zhv {z:Int}(h:0≤z∧z≤255):((UInt8.ofNat z.toNat).toNat:Int)=z:=by
 rw[UInt8.toNat_ofNat'];omega
theorem zmg (M:Int→Int→Int){k wide i:Nat}(hi:i<wide):(strM M k wide)[i]?=some (UInt8.ofNat (M k i).toNat):=by
 unfold strM;rw[List.getElem?_map,List.getElem?_range hi];rfl
theorem znG (M:Int→Int→Int){k wide high:Nat}(hk:k<high):(zbv M wide high)[k]?=some (strM M k wide):=by
 unfold zbv;rw[List.getElem?_map,List.getElem?_range hk];rfl
theorem zmh {rows:List (List UInt8)}{k i:Nat}{r:List UInt8}{b:UInt8}(hk:rows[k]?=some r)(hi:r[i]?=some b):picS rows k i=(b.toNat:Int):=by
 unfold picS;simp[List.getD_eq_getElem?_getD,hk,hi]
theorem zoG {M:Int→Int→Int}(h:∀r c,0≤M r c∧M r c≤255){wide high k i:Nat}(hk:k<high)(hi:i<wide):picS (zbv M wide high) k i=M k i:=by
 rw[zmh (znG M hk) (zmg M hi)];exact zhv (h k i)
theorem zoH {M N:Int→Int→Int}{X Y:Int}{wide high:Nat}(h:∀k i:Nat,k<high→i<wide→M k i=N k i):picL M X Y wide high=picL N X Y wide high:=by
 refine zed (zcE _ _ _ _ _) (zcE _ _ _ _ _) zhu zhu fun x y=>?_;rw[zjB,zjB];by_cases hc:0≤x-X∧x-X<wide∧0≤y-Y∧y-Y<high
 ·rw[if_pos hc,if_pos hc];have:=h (y-Y).toNat (x-X).toNat (by omega) (by omega)
  rwa [show(((y-Y).toNat:Nat):Int)=y-Y by omega,show(((x-X).toNat:Nat):Int)=x-X by omega] at this
 ·rw[if_neg hc,if_neg hc]
theorem zoI {M:Int→Int→Int}(h:∀r c,0≤M r c∧M r c≤255)(X Y:Int)(wide high:Nat):picL (picS (zbv M wide high)) X Y wide high=picL M X Y wide high :=
 zoH fun k i hk hi=>zoG h hk hi
end Go.Proofs.YtbabbmdpgpcgjaaGreatDoor

namespace Go.Proofs.YtbabbmdpgpcgjaaGreatDoor
open Nds
def picM (t:Tr)(X Y:Int):Int→Int→Int:=fun r c=>zax t (X+c) (Y+r)
theorem zoJ (t:Tr)(X Y:Int):zcf t (-p2 (t.lv.toNat-1)-X) (-p2 (t.lv.toNat-1)-Y) (fun _ _=>0)=picM t X Y:=by
 funext r c;rw[zmf];unfold picM zax;rw[show c-(-p2 (t.lv.toNat-1)-X)=X+c+p2 (t.lv.toNat-1) by omega,show r-(-p2 (t.lv.toNat-1)-Y)=Y+r+p2 (t.lv.toNat-1) by omega]
theorem BoxT.inP {t:Tr}{n:Nat}{X Y:Int}{wide high:Nat}(a:BoxT t n X Y wide high)(hn:t.lv.toNat=n):InP t (-p2 (n-1)-X) (-p2 (n-1)-Y) wide high:=fun x y h=>by
 have:=a.cell hn (X:=x-p2 (n-1)) (Y:=y-p2 (n-1)) (by
  unfold zax;rw[hn,show x-p2 (n-1)+p2 (n-1)=x by omega,show y-p2 (n-1)+p2 (n-1)=y by omega];exact h)
 omega
theorem BoxT.pic {t:Tr}{n:Nat}{X Y:Int}{wide high:Nat}(a:BoxT t n X Y wide high)(hn:t.lv.toNat=n)(x y:Int) :
  zax t x y=if 0≤x-X∧x-X<wide∧0≤y-Y∧y-Y<high then picM t X Y (y-Y) (x-X) else 0:=by
 by_cases h:0≤x-X∧x-X<wide∧0≤y-Y∧y-Y<high
 ·rw[if_pos h];unfold picM;rw[show X+(x-X)=x by omega,show Y+(y-Y)=y by omega]
 ·rw[if_neg h];refine Classical.byContradiction fun k=>h ?_;have:=a.cell hn k;omega
theorem BoxT.list {t:Tr}{n:Nat}{X Y:Int}{wide high:Nat}(a:BoxT t n X Y wide high)(hn:t.lv.toNat=n){L:List Cl}(hL:Srt L)(h0:∀c∈L,c.s≠0)(h:∀x y,zax t x y=lk L x y) :
  picL (picM t X Y) X Y wide high=L:=ztX hL h0 fun x y=>by rw[←h,a.pic hn]
end Go.Proofs.YtbabbmdpgpcgjaaGreatDoor

namespace Go.Proofs.YtbabbmdpgpcgjaaGreatDoor
open Nds Num
def FarZ (x:Int):Prop:=x < -p2 1328∨p2 1328≤x
theorem ztY {c:Cl}{k:Nat}(hk:k≤1329)(h:inL c k=true):¬ FarZ c.x∧¬ FarZ c.y:=by
 have hp:p2 (k-1)≤p2 1328:=zaw (by omega);unfold inL inH at h;unfold FarZ;simp only[Bool.and_eq_true,decide_eq_true_eq] at h;omega
theorem zfg {l:List Cl}{c:Cl}(hc:c∈l)(h:FarZ c.x∨FarZ c.y):1329<zaJ l:=by
 refine Nat.lt_of_not_le fun h9=>?_;have:=ztY h9 ((zgo l 1 (by omega)).2.2 h9 c hc);rcases h with h|h
 ·exact this.1 h
 ·exact this.2 h
def zhw (X U:Int)(n:Nat):Prop:=U=X∨∀i:Nat,i<n→FarZ (X+i)∧FarZ (U+i)
theorem ztZ {M:Int→Int→Int}{X Y U V:Int}{wide high:Nat}(hx:zhw X U wide)(hy:zhw Y V high) :
  picL M X Y wide high=picL M U V wide high∨(1329<zaJ (picL M X Y wide high)∧1329<zaJ (picL M U V wide high)):=by
 by_cases h0:∃k i:Nat,k<high∧i<wide∧M k i≠0
 ·obtain⟨k,i,h1,h2,h3⟩:=h0;have m1:(⟨X+i,Y+k,M k i⟩:Cl)∈picL M X Y wide high:=zcg.2 ⟨k,i,h1,h2,h3,rfl⟩;have m2:(⟨U+i,V+k,M k i⟩:Cl)∈picL M U V wide high:=zcg.2 ⟨k,i,h1,h2,h3,rfl⟩;rcases hx with rfl|hx
  ·rcases hy with rfl|hy
   ·exact .inl rfl
   ·exact .inr ⟨zfg m1 (.inr (hy k h1).1),zfg m2 (.inr (hy k h1).2)⟩
  ·exact .inr ⟨zfg m1 (.inl (hx i h2).1),zfg m2 (.inl (hx i h2).2)⟩
 ·have none:∀X Y:Int,picL M X Y wide high=[]:=fun X Y=>by
   refine List.eq_nil_iff_forall_not_mem.2 fun c hc=>?_;obtain⟨k,i,h1,h2,h3,_⟩:=zcg.1 hc;exact h0 ⟨k,i,h1,h2,h3⟩
  exact .inl ((none X Y).trans (none U V).symm)
theorem zhx (M:Int→Int→Int)(X Y:Int)(wide high:Nat):zaR (picL M X Y wide high)=picL M X Y wide high :=
 ztz (zcE M X Y wide high) zhu fun x y=>zdG (zfy (zcE M X Y wide high)) x y
theorem zrs (m:Nat):p2 (32*m)=((4294967296^m:Nat):Int):=by
 rw[zuZ m];unfold p2;rw[Int.natCast_pow];rfl
theorem zua {s:Bool}{xs:List Nat}(h:zaC s xs)(hl:42<xs.length){i:Nat}(hi:i<1000):FarZ (ival s xs+i):=by
 have h1:=zeC h.1 (by intro e;rw[e] at hl;simp at hl);have h2:(4294967296:Nat)^42≤4294967296^(xs.length-1):=Nat.pow_le_pow_right (by decide) (by omega);have h3:p2 1329≤(val xs:Int):=by
  have e:=zrs 42;have:=zaw (m:=1329) (n:=32*42) (by omega);omega
 have h4:p2 1329=p2 1328+p2 1328:=zap 1328;have h5:p2 10≤p2 1328:=zaw (by omega);have h6:p2 10=1024:=by decide
 unfold FarZ ival;cases s with
 | false=>right;simp only[Bool.false_eq_true,if_false];omega
 | true=>left;simp only[if_true];omega
theorem zwv (i:Nat):FarZ (p2 1329+i):=by
 have h4:p2 1329=p2 1328+p2 1328:=zap 1328;have h5:=zaz 1328;unfold FarZ;omega
theorem zrt {s:Bool}{xs:List Nat}(h:zaC s xs)(hl:42<xs.length){n:Nat}(hn:n≤1000):zhw (ival s xs) (p2 1329) n:=.inr fun i hi=>⟨zua h hl (by omega),zwv i⟩
def kidX (u:Int)(m j:Nat):Int:=u+((j%2:Nat):Int)*p2 m
def kidY (v:Int)(m j:Nat):Int:=v+((j / 2:Nat):Int)*p2 m
def zfD (q:Nat→Tr)(u v:Int)(m:Nat)(M:Int→Int→Int):Nat→Int→Int→Int
 | 0=>M
 | j+1=>zcf (q j) (kidX u m j) (kidY v m j) (zfD q u v m M j)
theorem ziB {l:List Nd}(hl:zai l=true){x:Nd}{m:Nat}(hx:fitB l x=true)(hv:x.lv=(m:Int)+1)(u v:Int)(M:Int→Int→Int) :
  zcf (norm (dens l) x) u v M=zfD (fun i=>kidT (dens l) ((m:Int)+1) (x.kid i)) u v m M 4:=by
 have hw:∀i,i<4→wfT (m:Int) (kidT (dens l) ((m:Int)+1) (x.kid i)):=fun i hi=>zqE hl (by have:=zav hx hi;rwa [hv] at this);rw[zjs hv,ztW (hw 0 (by omega)) (hw 1 (by omega)) (hw 2 (by omega)) (hw 3 (by omega))];have e0:∀u:Int,u+((0:Nat):Int)*p2 m=u:=fun u=>by omega
 have e1:∀u:Int,u+((1:Nat):Int)*p2 m=u+p2 m:=fun u=>by omega
 show _=zcf _ (u+((1:Nat):Int)*p2 m) (v+((1:Nat):Int)*p2 m) (zcf _ (u+((0:Nat):Int)*p2 m) (v+((1:Nat):Int)*p2 m) (zcf _ (u+((1:Nat):Int)*p2 m) (v+((0:Nat):Int)*p2 m) (zcf _ (u+((0:Nat):Int)*p2 m) (v+((0:Nat):Int)*p2 m) M)));simp only[e0,e1]
theorem zru {l:List Nd}(hl:zai l=true){x:Nd}{m:Nat}(hx:fitB l x=true)(hv:x.lv=(m:Int)+1){u v:Int}{wide high:Nat}(h:InP (norm (dens l) x) u v wide high){j:Nat}(hj:j<4) :
  InP (kidT (dens l) ((m:Int)+1) (x.kid j)) (kidX u m j) (kidY v m j) wide high:=by
 have hw:∀i,i<4→wfT (m:Int) (kidT (dens l) ((m:Int)+1) (x.kid i)):=fun i hi=>zqE hl (by have:=zav hx hi;rwa [hv] at this);rw[zjs hv] at h;obtain⟨h0,h1,h2,h3⟩:=zyd (hw 0 (by omega)) (hw 1 (by omega)) (hw 2 (by omega)) (hw 3 (by omega)) h;have e0:∀u:Int,u+((0:Nat):Int)*p2 m=u:=fun u=>by omega
 have e1:∀u:Int,u+((1:Nat):Int)*p2 m=u+p2 m:=fun u=>by omega
 match j,hj with
 | 0,_=>show InP _ (u+((0:Nat):Int)*p2 m) (v+((0:Nat):Int)*p2 m) _ _;rw[e0,e0];exact h0
 | 1,_=>show InP _ (u+((1:Nat):Int)*p2 m) (v+((0:Nat):Int)*p2 m) _ _;rw[e1,e0];exact h1
 | 2,_=>show InP _ (u+((0:Nat):Int)*p2 m) (v+((1:Nat):Int)*p2 m) _ _;rw[e0,e1];exact h2
 | 3,_=>show InP _ (u+((1:Nat):Int)*p2 m) (v+((1:Nat):Int)*p2 m) _ _;rw[e1,e1];exact h3
theorem ziC {ts:List Tr}{k v':Int}(hk:k=0)(hz:kidT ts v' 0=.e)(q:Nat→Tr)(u v:Int)(m:Nat)(M:Int→Int→Int){j:Nat}(hq:q j=kidT ts v' k):zfD q u v m M (j+1)=zfD q u v m M j:=by
 show zcf (q j) _ _ _=_;rw[hq,hk,hz,zwu]
theorem zww (u:Int)(m:Nat){b:Nat}(hb:b<2):(u%4294967296+((b:Int)*(p2 m%4294967296))%4294967296)%4294967296=(u+(b:Int)*p2 m)%4294967296:=by
 match b,hb with
 | 0,_=>show(u%4294967296+((0:Int)*_)%4294967296)%4294967296=(u+(0:Int)*_)%4294967296;omega
 | 1,_=>show(u%4294967296+((1:Int)*_)%4294967296)%4294967296=(u+(1:Int)*_)%4294967296;omega
theorem zwx {x:Nat}{r:List Nat}(hx:x<4294967296):ival false (x :: r)%4294967296=x∧ival true (x :: r)%4294967296=(-(x:Int))%4294967296:=by
 have e:val (x :: r)=x+4294967296*val r:=rfl;unfold ival;simp only[Bool.false_eq_true,if_false,if_true,e];omega
theorem znH (n:Nat)(X:Int):((-(p2 n%4294967296))%4294967296-X%4294967296)%4294967296=(-p2 n-X)%4294967296:=by omega
end Go.Proofs.YtbabbmdpgpcgjaaGreatDoor

namespace Go.Proofs.YtbabbmdpgpcgjaaGreatDoor
open Nds
theorem zjD {q:List Nd}(hq:zai q=true)(X Y r c:Int):0≤picM (den q q.length) X Y r c∧picM (den q q.length) X Y r c≤255:=zkw hq (X+c) (Y+r)
theorem zjE (M:Int→Int→Int)(X Y:Int)(k:Nat):∀wide,(rowC M X Y k wide).length+((List.range wide).filter fun(i:Nat)=>M k i==0).length=wide
 | 0=>rfl
 | wide+1=>by
  have ih:=zjE M X Y k wide;rw[zdK,List.range_succ,List.filter_append,List.length_append,List.length_append];by_cases h:M k wide=0
  ·rw[if_pos h];simp[h];omega
  ·rw[if_neg h];simp[h];omega
end Go.Proofs.YtbabbmdpgpcgjaaGreatDoor

namespace Go.Proofs.YtbabbmdpgpcgjaaGreatDoor
open Go.RowKit Num
theorem zrv (k:Nat):(2:Int)^(min k 32)%4294967296=2^k%4294967296:=by
 by_cases h:k≤32
 ·rw[Nat.min_eq_left h]
 ·obtain⟨d,rfl⟩:∃d,k=32+d:=⟨k-32,by omega⟩;rw[Nat.min_eq_right (by omega),Int.pow_add,show(2:Int)^32=4294967296 by decide,Int.mul_emod_right];rfl
theorem zjF (k:Nat)(w:World)(hk:k≤1400) :
  Calls Tryz.prog 152 #[.int .i64 (k:Int)] w fun e w'=>e=.returned (.int .u32 ((2:Int)^k%4294967296))∧Below w.heap.size w w':=by
 go_enter Tryz.func152,Tryz.ntmps152;go_wp2_with fail;rw[zrv];go_ret;exact⟨rfl,Below.refl _ w⟩
theorem zrw (s:Bool)(A:Option Addr)(n c:Nat)(xs:List Nat)(w:World)(h:Us w A c xs)(hn:xs.length=n) :
  Calls Tryz.prog 154 #[.agg #[.bool s,.slice A n c]] w fun e w'=>e=.returned (.int .u32 ((if s then -((xs.getD 0 0:Nat):Int) else ((xs.getD 0 0:Nat):Int))%4294967296))∧Below w.heap.size w w':=by
 cases xs with
 | nil =>
  obtain rfl:0=n:=hn;cases s with
  | false =>
   go_enter Tryz.func154,Tryz.ntmps154;go_wp2_with fail;go_ret;exact⟨rfl,(Below.refl _ w).alloc (Nat.le_refl _) _⟩
  | true =>
   go_enter Tryz.func154,Tryz.ntmps154;go_wp2_with fail;go_ret;exact⟨rfl,(Below.refl _ w).alloc (Nat.le_refl _) _⟩
 | cons x r =>
  obtain⟨b,off,rfl,hlt,hc⟩:=h.at_ (by simp)
  have hg:((n:Int)==0)=false:=by simp at hn;simp;omega
  have hp:0<n:=by simp at hn;omega
  have h0:w.cell? ⟨b,off,none⟩=some (.int .u32 (x:Int)):=hc 0 (by simp);have hx:(x:Int)%4294967296=x:=by have:=h.1 x (by simp);omega
  clear h hc;cases s with
  | false =>
   go_enter Tryz.func154,Tryz.ntmps154;go_wp2_with fail;go_ret;exact⟨rfl,(Below.refl _ w).alloc (Nat.le_refl _) _⟩
  | true =>
   go_enter Tryz.func154,Tryz.ntmps154;go_wp2_with fail;go_ret;exact⟨rfl,(Below.refl _ w).alloc (Nat.le_refl _) _⟩
end Go.Proofs.YtbabbmdpgpcgjaaGreatDoor

namespace Go.Proofs.YtbabbmdpgpcgjaaGreatDoor
open Go.RowKit Num Nds
def RowP (R:Nat→Nat)(high:Nat):Nat→Prop:=fun k=>∃i,i<high∧k=R i
structure PnI (base:Nat)(l:List Nd)(n cq:Nat)(Aq:Option Addr)(gp g wide high:Nat)(R:Nat→Nat)(M:Int→Int→Int)(W:World):Prop where
 ns:Ns W Aq cq l
 qa:∀a,Aq=some a→¬ RowP R high a.block
 pk:W.heap[gp]?=some (.cells #[.slice Aq n cq,.slice (some ⟨g,0,none⟩) high high] 194)
 pr:¬ RowP R high gp
 pic:PicR 5 101 base g wide high high R M W
theorem Ns.ky {P:Nat→Prop}{W W':World}{A:Option Addr}{c:Nat}{l:List Nd}(h:Ns W A c l)(hA:∀a,A=some a→¬ P a.block)(k:Ky P W W'):Ns W' A c l :=
 ⟨h.1,h.2.1,h.2.2.1,fun h0=>by
  obtain⟨b,off,e,hlt,hc⟩:=h.2.2.2 h0;exact⟨b,off,e,Nat.lt_of_lt_of_le hlt k.size,fun i hi=>k.nd (hc i hi) hlt (hA _ e)⟩⟩
section
variable {base:Nat} {l:List Nd} {n cq:Nat} {Aq:Option Addr} {gp g wide high:Nat} {R:Nat→Nat} {M M':Int→Int→Int} {W W':World}
theorem PnI.ky (h:PnI base l n cq Aq gp g wide high R M W)(k:Ky (RowP R high) W W')(p:PicR 5 101 base g wide high high R M' W'):PnI base l n cq Aq gp g wide high R M' W' :=
 ⟨h.ns.ky h.qa k,h.qa,(k.block gp (zab h.pk) h.pr).trans h.pk,h.pr,p⟩
theorem PnI.next (h:PnI base l n cq Aq gp g wide high R M W)(k:Below W.heap.size W W'):PnI base l n cq Aq gp g wide high R M W' :=
 h.ky ((Ky.refl _ W).below k) (h.pic.next k)
theorem PnI.cells (h:PnI base l n cq Aq gp g wide high R M W):W.cell? ⟨gp,0,none⟩=some (.slice Aq n cq)∧W.cell? ⟨gp,1,none⟩=some (.slice (some ⟨g,0,none⟩) high high) :=
 ⟨(cell_of_row W gp 0 _ _ (0,0) h.pk).trans rfl,(cell_of_row W gp 1 _ _ (0,0) h.pk).trans rfl⟩
end
def zyV (base g wide high:Nat)(R:Nat→Nat)(M:Int→Int→Int)(w:World)(e:Ending)(w':World):Prop :=
 e=.returned (.tuple #[])∧Ky (RowP R high) w w'∧PicR 5 101 base g wide high high R M w'
theorem znI (u:Int)(d:Nat){b:Int}(h0:0≤b)(h1:b<2){j:Nat}{k:Nat→Nat}(hb:b=((k j:Nat):Int)):(u%4294967296+b*((2:Int)^d%4294967296))%4294967296=(u+((k j:Nat):Int)*p2 d)%4294967296:=by
 have:=zww u d (b:=k j) (by omega);rw[←hb] at this ⊢;rw[←this];show _=(u%4294967296+(b*((2:Int)^d%4294967296))%4294967296)%4294967296;generalize b*((2:Int)^d%4294967296)=X;omega
theorem zrx (base n cq:Nat)(l:List Nd)(Aq:Option Addr)(gp g wide high:Nat)(R:Nat→Nat)(hl:zai l=true)(hn:l.length=n)(hwd:wide≤1000)(hhg:high≤1000) :
  ∀(m:Nat) (x:Nd) (u v:Int) (M:Int→Int→Int) (w:World),m≤1328→x.lv=(m:Int)+1→x.wf→fitB l x=true→InP (norm (dens l) x) u v wide high→PnI base l n cq Aq gp g wide high R M w →
   Calls Tryz.prog 153 #[.pointer (some ⟨gp,0,none⟩),ndv x,.int .u32 (u%4294967296),.int .u32 (v%4294967296)] w (zyV base g wide high R (zcf (norm (dens l) x) u v M) w):=by
 intro m
 induction m with
 | zero =>
  intro x u v M w hm hv hwf hf hp hI;have HL:=Hh hn;obtain⟨d,hd⟩:∃d:Nat,d=0:=⟨_,rfl⟩;rw[show(((0:Nat)):Int)=(d:Int) by rw[hd]] at hv;have HD:=Hh hd;obtain⟨q,hq⟩:∃q:Nat→Tr,q=fun i=>kidT (dens l) ((d:Int)+1) (x.kid i):=⟨_,rfl⟩;have ho4:=ziB hl hf hv u v M;rw[←hq] at ho4;rw[ho4];have HK:=Hh (show ∀j,j<4→InP (q j) (kidX u d j) (kidY v d j) wide high from fun j hj=>by rw[hq];exact zru hl hf hv hp hj);have HQ:=Hh hq;have HF:=Hh hf;have hb:=(Below.refl w.heap.size w).alloc (Nat.le_refl _) (.cells #[.int .i64 x.lv,.int .i64 x.a,.int .i64 x.b,.int .i64 x.c,.int .i64 x.d] 112);have HI:=Hh (hI.next hb);have HB:=Hh (zbs.new w x);have HKY:=Hh ((Ky.refl (RowP R high) w).below hb);have hx1:IntKind.i64.wrap (x.lv-1)=(d:Int):=by rw[hv];rw[show((d:Int)+1-1)=(d:Int) by omega];exact IntWalk.i64_in _ (by omega)
  have HLV:=Hh hv;have NB:=Hh (show ¬ RowP R high w.heap.size from fun⟨i,hi,e⟩=>by have:=(hI.pic.ltR hi).2;omega);obtain⟨H,hH⟩:∃H,H=(2:Int)^d%4294967296:=⟨_,rfl⟩;have HH:=Hh hH;obtain⟨U,hU⟩:∃U,U=u%4294967296:=⟨_,rfl⟩;obtain⟨V,hV⟩:∃V,V=v%4294967296:=⟨_,rfl⟩;rw[←hU,←hV];have HU:=Hh hU;have HV:=Hh hV;obtain⟨c0,c1,c2,c3,c4⟩:=HB.out.cells;have HWF:=Hh hwf;clear hI hb hq ho4 hf hp hH hU hV hn hwf hv hd;go_enter Tryz.func153,Tryz.ntmps153;go_wp2_with (go_at_call 152;go_loud (refine(zjF d _ (by have:=HD.out;omega)).mono ?_;rintro e w1 ⟨rfl,b_⟩;rw[←HH.out];have HI:=Hh (HI.out.next b_);have HKY:=Hh (HKY.out.below b_);have HB:=Hh (HB.out.stay (b_.block _ HB.out.lt));clear b_ c0 c1 c2 c3 c4;obtain⟨c0,c1,c2,c3,c4⟩:=HB.out.cells));go_loopw [19,9,10,11,12] (fun z1 z2 z3 z4 z5 wr=>∃(j:Nat) (v2 v3 v4 v5:Value),z1=.int .i64 j∧z2=v2∧z3=v3∧z4=v4∧z5=v5∧j≤4∧PnI base l n cq Aq gp g wide high R (zfD q u v d M j) wr∧Ky (RowP R high) w wr∧zbs wr w.heap.size x) (fun z1 _ _ _ _ _=>4-(intOf z1).toNat)
  case atStart=>exact⟨0,_,_,_,_,rfl,rfl,rfl,rfl,rfl,by omega,HI.out,HKY.out,HB.out⟩
  case round =>
   obtain⟨j,v2,v3,v4,v5,rfl,rfl,rfl,rfl,rfl,hj,hi,hk,hb⟩:=hrel;clear c0 c1 c2 c3 c4 HI HKY HB;have HI:=Hh hi;have HKY:=Hh hk;have HB:=Hh hb;obtain⟨c0,c1,c2,c3,c4⟩:=hb.cells;obtain⟨p0,p1⟩:=hi.cells;clear hi hk hb;by_cases hlt:j<4
   ·have hidx:=zkm x j hlt;have hfk:=zav HF.out hlt;rw[HLV.out] at hfk;obtain⟨y,hy⟩:∃y,y=x.kid j:=⟨_,rfl⟩;rw[←hy] at hidx hfk;have HY:=Hh hy;clear hy;have hkn:=HK.out j hlt;obtain⟨C,hC⟩:∃C,C=kidX u d j%4294967296:=⟨_,rfl⟩;obtain⟨E,hE⟩:∃E,E=kidY v d j%4294967296:=⟨_,rfl⟩;have eC:(U+(j:Int)%2*H)%4294967296=C:=by
     rw[hC,HU.out,HH.out];exact znI u d (by omega) (by omega) (k:=fun i=>i%2) (by show _=((j%2:Nat):Int);omega)
    have eE:(V+(j:Int) / 2*H)%4294967296=E:=by
     rw[hE,HV.out,HH.out];exact znI v d (by omega) (by omega) (k:=fun i=>i / 2) (by show _=((j / 2:Nat):Int);omega)
    have j1:IntKind.i64.wrap ((j:Int)+1)=(j:Int)+1:=IntWalk.i64_in _ (by omega);have HC:=Hh hC;have HE:=Hh hE;clear hC hE;have h1v:(d:Int)+1=1:=by have:=HD.out;omega
    rw[h1v] at hfk;have hqj:q j=st y:=by
     rw[HQ.out];show kidT (dens l) ((d:Int)+1) (x.kid j)=_;rw[←HY.out,h1v,zdh]
    have t3:decide (x.lv>1)=false:=decide_eq_false (by have:=HLV.out;omega);by_cases hy0:y=0
    ·subst hy0;have hz:zfD q u v d M (j+1)=zfD q u v d M j:=ziC (ts:=dens l) (v':=1) HY.out.symm (by rw[zdh];rfl) q u v d M (by rw[hqj,←HY.out];rfl);have HZ:=Hh hz;clear hz hkn hfk hidx eC eE hqj;have hidx2:=zkm x j hlt;rw[←HY.out] at hidx2;go_wp2_with fail;go_roundw
     case rel=>exact⟨j+1,_,_,_,_,by go_num,rfl,rfl,rfl,rfl,by omega,by rw[HZ.out];exact HI.out,HKY.out,HB.out⟩
     case measure=>simp[intOf];omega
    ·rw[hqj] at hkn;obtain⟨a1,a2,a3,a4⟩:=zyc hy0 hkn;have hyb:0≤y∧y≤255:=by
      unfold kidB at hfk;rw[if_pos rfl,decide_eq_true_iff] at hfk;exact hfk
     obtain⟨cn,hcn⟩:∃cn:Nat,kidX u d j=(cn:Int):=⟨(kidX u d j).toNat,by omega⟩;obtain⟨rn,hrn⟩:∃rn:Nat,kidY v d j=(rn:Int):=⟨(kidY v d j).toNat,by omega⟩;have eC2:C=(cn:Int):=by rw[HC.out,hcn];exact znE (by omega)
     have eE2:E=(rn:Int):=by rw[HE.out,hrn];exact znE (by omega)
     rw[eC2] at eC;rw[eE2] at eE;have hpic:zfD q u v d M (j+1)=fun r c=>if r=(rn:Int)∧c=(cn:Int) then y else zfD q u v d M j r c:=by
      show zcf (q j) (kidX u d j) (kidY v d j) _=_;rw[hqj,ztV hy0,hcn,hrn]
     have k1:rn<high:=by omega
     have k2:cn<wide:=by omega
     have r0:=HI.out.pic.at_ k1 k1
     have r1:=HI.out.pic.get (k:=rn) (i:=cn) k1 k2;have r2:=HI.out.pic.free (k:=rn) k1 cn;have t2:(y==0)=false:=beq_eq_false_iff_ne.2 hy0;have i1:(rn:Int)<(high:Int):=by omega
     have i2:(cn:Int)<(wide:Int):=by omega
     have i3:IntKind.u8.wrap y=y:=by simp[IntKind.wrap,IntKind.bits,IntKind.signed];omega
     have HPC:=Hh hpic;have HK1:=Hh k1;have HK2:=Hh k2;have HJ:=Hh hlt;clear hpic hqj hkn hfk hyb hcn hrn eC2 eE2;go_wp2_with fail;go_roundw
     case rel=>exact⟨j+1,_,_,_,_,by go_num,rfl,rfl,rfl,rfl,by have:=HJ.out;omega,by rw[HPC.out];exact HI.out.ky ((Ky.refl _ wr).set ⟨R rn,cn,none⟩ (fun _=>⟨rn,HK1.out,rfl⟩) _) (HI.out.pic.set HK1.out HK2.out y),HKY.out.trans ((Ky.refl _ wr).set ⟨R rn,cn,none⟩ (fun _=>⟨rn,HK1.out,rfl⟩) _) (fun _ _ h=>h),HB.out.stay (heap_setCell_other wr ⟨R rn,cn,none⟩ w.heap.size _ (fun e=>NB.out ⟨rn,HK1.out,by first|exact e|exact e.symm⟩))⟩
     case measure=>have:=HJ.out;simp[intOf];omega
   ·have e:j=4:=by omega
    subst e;go_wp2_with fail;go_end0;exact⟨rfl,HKY.out,HI.out.pic⟩
 | succ m ih =>
  intro x u v M w hm hv hwf hf hp hI;have HL:=Hh hn;obtain⟨d,hd⟩:∃d,d=m+1:=⟨_,rfl⟩;rw[←hd] at hm hv;have HD:=Hh hd;obtain⟨q,hq⟩:∃q:Nat→Tr,q=fun i=>kidT (dens l) ((d:Int)+1) (x.kid i):=⟨_,rfl⟩;have ho4:=ziB hl hf hv u v M;rw[←hq] at ho4;rw[ho4];have HK:=Hh (show ∀j,j<4→InP (q j) (kidX u d j) (kidY v d j) wide high from fun j hj=>by rw[hq];exact zru hl hf hv hp hj);have HQ:=Hh hq;have HF:=Hh hf;have hb:=(Below.refl w.heap.size w).alloc (Nat.le_refl _) (.cells #[.int .i64 x.lv,.int .i64 x.a,.int .i64 x.b,.int .i64 x.c,.int .i64 x.d] 112);have HI:=Hh (hI.next hb);have HB:=Hh (zbs.new w x);have HKY:=Hh ((Ky.refl (RowP R high) w).below hb);have hx1:IntKind.i64.wrap (x.lv-1)=(d:Int):=by rw[hv];rw[show((d:Int)+1-1)=(d:Int) by omega];exact IntWalk.i64_in _ (by omega)
  have HLV:=Hh hv;have NB:=Hh (show ¬ RowP R high w.heap.size from fun⟨i,hi,e⟩=>by have:=(hI.pic.ltR hi).2;omega);obtain⟨H,hH⟩:∃H,H=(2:Int)^d%4294967296:=⟨_,rfl⟩;have HH:=Hh hH;obtain⟨U,hU⟩:∃U,U=u%4294967296:=⟨_,rfl⟩;obtain⟨V,hV⟩:∃V,V=v%4294967296:=⟨_,rfl⟩;rw[←hU,←hV];have HU:=Hh hU;have HV:=Hh hV;obtain⟨c0,c1,c2,c3,c4⟩:=HB.out.cells;have HWF:=Hh hwf;clear hI hb hq ho4 hf hp hH hU hV hn hwf hv hd;go_enter Tryz.func153,Tryz.ntmps153;go_wp2_with (go_at_call 152;go_loud (refine(zjF d _ (by omega)).mono ?_;rintro e w1 ⟨rfl,b_⟩;rw[←HH.out];have HI:=Hh (HI.out.next b_);have HKY:=Hh (HKY.out.below b_);have HB:=Hh (HB.out.stay (b_.block _ HB.out.lt));clear b_ c0 c1 c2 c3 c4;obtain⟨c0,c1,c2,c3,c4⟩:=HB.out.cells));go_loopw [19,9,10,11,12] (fun z1 z2 z3 z4 z5 wr=>∃(j:Nat) (v2 v3 v4 v5:Value),z1=.int .i64 j∧z2=v2∧z3=v3∧z4=v4∧z5=v5∧j≤4∧PnI base l n cq Aq gp g wide high R (zfD q u v d M j) wr∧Ky (RowP R high) w wr∧zbs wr w.heap.size x) (fun z1 _ _ _ _ _=>4-(intOf z1).toNat)
  case atStart=>exact⟨0,_,_,_,_,rfl,rfl,rfl,rfl,rfl,by omega,HI.out,HKY.out,HB.out⟩
  case round =>
   obtain⟨j,v2,v3,v4,v5,rfl,rfl,rfl,rfl,rfl,hj,hi,hk,hb⟩:=hrel;clear c0 c1 c2 c3 c4 HI HKY HB;have HI:=Hh hi;have HKY:=Hh hk;have HB:=Hh hb;obtain⟨c0,c1,c2,c3,c4⟩:=hb.cells;obtain⟨p0,p1⟩:=hi.cells;clear hi hk hb;by_cases hlt:j<4
   ·have hidx:=zkm x j hlt;have hfk:=zav HF.out hlt;rw[HLV.out] at hfk;obtain⟨y,hy⟩:∃y,y=x.kid j:=⟨_,rfl⟩;rw[←hy] at hidx hfk;have HY:=Hh hy;clear hy;have hkn:=HK.out j hlt;obtain⟨C,hC⟩:∃C,C=kidX u d j%4294967296:=⟨_,rfl⟩;obtain⟨E,hE⟩:∃E,E=kidY v d j%4294967296:=⟨_,rfl⟩;have eC:(U+(j:Int)%2*H)%4294967296=C:=by
     rw[hC,HU.out,HH.out];exact znI u d (by omega) (by omega) (k:=fun i=>i%2) (by show _=((j%2:Nat):Int);omega)
    have eE:(V+(j:Int) / 2*H)%4294967296=E:=by
     rw[hE,HV.out,HH.out];exact znI v d (by omega) (by omega) (k:=fun i=>i / 2) (by show _=((j / 2:Nat):Int);omega)
    have j1:IntKind.i64.wrap ((j:Int)+1)=(j:Int)+1:=IntWalk.i64_in _ (by omega);have HC:=Hh hC;have HE:=Hh hE;clear hC hE;rcases zbc (show(d:Int)+1≠1 by have:=HD.out;omega) hfk with rfl|⟨p,rfl,hp,hpl⟩
    ·have hz:zfD q u v d M (j+1)=zfD q u v d M j:=ziC (ts:=dens l) (v':=(d:Int)+1) HY.out.symm (by rw[zaY (by have:=HD.out;omega)];exact zbd l) q u v d M (by rw[HQ.out]);have HZ:=Hh hz;clear hz hkn hfk hidx eC eE;have hidx2:=zkm x j hlt;rw[←HY.out] at hidx2;go_wp2_with fail;go_roundw
     case rel=>exact⟨j+1,_,_,_,_,by go_num,rfl,rfl,rfl,rfl,by omega,by rw[HZ.out];exact HI.out,HKY.out,HB.out⟩
     case measure=>simp[intOf];omega
    ·have hpn:p<n:=by rw[←HL.out];exact hp
     obtain⟨bb,off,rfl,hb,hc⟩:=HI.out.ns.at_ (by omega)
     have hcap:=HI.out.ns.cap;rw[HL.out] at hcap;obtain⟨z,hz⟩:∃z,z=at_ l p:=⟨_,rfl⟩
     obtain⟨n0,n1,n2,n3,n4⟩:=hc p hp;have hzl:z.lv=(m:Int)+1:=by have:=HD.out;rw[hz];omega
     have hzw:z.wf:=by rw[hz];exact HI.out.ns.wf hp
     have hzf:fitB l z=true:=by rw[hz];exact zaq hl hp
     have hqj:q j=norm (dens l) z:=by
      rw[HQ.out];show kidT (dens l) ((d:Int)+1) (x.kid j)=_;rw[←HY.out,zaY (by have:=HD.out;omega),show((p:Int)+1).toNat=p+1 by omega,zbR hl hp,←hz]
     rw[hqj] at hkn;rw[←hz] at n0 n1 n2 n3 n4;have t2:(((p:Int)+1)==0)=false:=beq_eq_false_iff_ne.2 (by omega);have t3:decide (x.lv>1)=true:=decide_eq_true (by have:=HLV.out;have:=HD.out;omega);have i1:(p:Int)<(n:Int):=by omega
     have i3:IntKind.i64.wrap ((p:Int)+1-1)=(p:Int):=by rw[show(p:Int)+1-1=(p:Int) by omega];exact IntWalk.i64_in _ (by omega)
     have i7:IntKind.i64.wrap (p:Int)=(p:Int):=IntWalk.i64_in _ (by omega);have HKN:=Hh hkn;have HZL:=Hh hzl;have HZW:=Hh hzw;have HZF:=Hh hzf;have HQJ:=Hh hqj;have HJ:=Hh hlt;clear hc hkn hzl hzw hzf hqj hfk hz hpl;go_wp2_with (go_at_call 153;go_loud (have hr:=ih z (kidX u d j) (kidY v d j) (zfD q u v d M j) _ (by have:=HD.out;omega) HZL.out HZW.out HZF.out HKN.out HI.out;rw[←HC.out,←HE.out] at hr;refine hr.mono ?_;rintro e w2 ⟨rfl,hk2,hp2⟩;have HI2:=Hh (HI.out.ky hk2 hp2);have HK2:=Hh (HKY.out.trans hk2 (fun _ _ h=>h));have HB2:=Hh (HB.out.stay (hk2.block _ HB.out.lt (fun h=>NB.out h)));clear hk2 hp2 hr));go_roundw
     case rel=>exact⟨j+1,_,_,_,_,by go_num,rfl,rfl,rfl,rfl,by have:=HJ.out;omega,by(show PnI _ _ _ _ _ _ _ _ _ _ (zcf (q j) _ _ _) _;rw[HQJ.out];exact HI2.out),HK2.out,HB2.out⟩
     case measure=>have:=HJ.out;simp[intOf];omega
   ·have e:j=4:=by omega
    subst e;go_wp2_with fail;go_end0;exact⟨rfl,HKY.out,HI.out.pic⟩
def strV (r:List UInt8):Value:=.string ⟨r.toArray⟩
def Ts (w:World)(A:Option Addr)(c:Nat)(L:List (List UInt8)):Prop:=(∀r∈L,r.length≤maxLen)∧Rd w A c (L.map strV)
def tat (L:List (List UInt8))(i:Nat):List UInt8:=L[i]?.getD []
theorem Ts.below {w w':World}{A:Option Addr}{c:Nat}{L:List (List UInt8)}(h:Ts w A c L)(hb:Below w.heap.size w w'):Ts w' A c L:=⟨h.1,h.2.below hb⟩
theorem Ts.nil (w:World):Ts w none 0 []:=⟨by simp,Rd.nil w⟩
theorem Ts.cap {w:World}{A:Option Addr}{c:Nat}{L:List (List UInt8)}(h:Ts w A c L):L.length≤c∧c≤9223372036854775807:=by
 have h1:=h.2.1;have h2:=h.2.2.1;simp only[maxLen,List.length_map] at h1 h2;exact⟨h1,by omega⟩
theorem Ts.at_ {w:World}{A:Option Addr}{c:Nat}{L:List (List UInt8)}(h:Ts w A c L)(hn:0<L.length) :
  ∃b off,A=some ⟨b,off,none⟩∧b<w.heap.size∧∀j,j<L.length→w.cell? ⟨b,off+j,none⟩=some (strV (tat L j)):=by
 obtain⟨b,off,e,hb,hc⟩:=h.2.2.2 (by simpa using hn);refine⟨b,off,e,hb,fun j hj=>hc j _ ?_⟩;unfold tat;rw[List.getElem?_map,List.getElem?_eq_getElem hj];rfl
theorem zef (r:List UInt8):(⟨r.toArray⟩:ByteArray).size=r.length:=by simp[ByteArray.size]
theorem zdn {v:Value}(hv:v.cells=#[v])(n:Nat):(madeCells v.cells (n*1)).toList=List.replicate n v:=by
 rw[hv,Nat.mul_one];refine List.ext_getElem? fun j=>?_;by_cases hj:j<n
 ·simp[madeCells,hj,List.getElem?_replicate,Nat.mod_one]
 ·simp[madeCells,hj,List.getElem?_replicate,Nat.mod_one]
end Go.Proofs.YtbabbmdpgpcgjaaGreatDoor
