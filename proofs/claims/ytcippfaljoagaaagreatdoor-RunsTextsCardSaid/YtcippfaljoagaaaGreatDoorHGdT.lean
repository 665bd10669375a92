import Derived.Test.YtcippfaljoagaaaGreatDoorHClPj

set_option linter.unusedVariables false
set_option linter.unusedSimpArgs false
set_option maxRecDepth 100000
set_option maxHeartbeats 6400000
namespace Go.Proofs.YtcippfaljoagaaaGreatDoor
open Go.RowKit Num
def inI (x:Int):Bool:=decide (-9223372036854775808≤x∧x≤9223372036854775807)
def outI (x:Int):Int:=if inI x=true then x else 0
theorem ziN {x:Int}(h : -9223372036854775808≤x∧x≤9223372036854775807):inI x=true∧outI x=x:=by
 have:inI x=true:=decide_eq_true h;exact⟨this,by unfold outI;rw[if_pos this]⟩
theorem zjQ {x:Int}(h:¬ (-9223372036854775808≤x∧x≤9223372036854775807)):inI x=false∧outI x=0:=by
 have:inI x=false:=decide_eq_false h;exact⟨this,by unfold outI;rw[this];rfl⟩
theorem ziO (n:Int)(w:World) :
  Calls Tryz.prog 193 #[.int .i64 n,.bool true] w fun e w'=>e=.returned (.tuple #[.int .i64 n,.bool true])∧w=w':=by
 go_enter Tryz.func193,Tryz.ntmps193;go_wp2;go_ret2;exact⟨rfl,rfl⟩
theorem zpE (n:Int)(w:World) :
  Calls Tryz.prog 193 #[.int .i64 n,.bool false] w fun e w'=>e=.returned (.tuple #[.int .i64 0,.bool false])∧w=w':=by
 go_enter Tryz.func193,Tryz.ntmps193;go_wp2;go_ret2;exact⟨rfl,rfl⟩
theorem zmm (v:Nat)(w:World) :
  Calls Tryz.prog 193 #[.int .i64 (wrap64 (v:Int)),.bool (decide ((v:Int)≤9223372036854775807))] w fun e w'=>e=.returned (.tuple #[.int .i64 (outI v),.bool (inI v)])∧w=w':=by
 by_cases h:(v:Int)≤9223372036854775807
 ·obtain⟨h1,h2⟩:=ziN (x:=v) ⟨by omega,h⟩;rw[decide_eq_true h,h1,h2,IntWalk.wrap64_in _ ⟨by omega,h⟩];exact ziO _ w
 ·obtain⟨h1,h2⟩:=zjQ (x:=v) (by omega);rw[decide_eq_false h,h1,h2];exact zpE _ w
theorem zmn (v:Nat)(w:World) :
  Calls Tryz.prog 193 #[.int .i64 (wrap64 (-wrap64 (v:Int))),.bool (decide ((v:Int)≤9223372036854775808))] w fun e w'=>e=.returned (.tuple #[.int .i64 (outI (-v)),.bool (inI (-v))])∧w=w':=by
 by_cases h:(v:Int)≤9223372036854775808
 ·obtain⟨h1,h2⟩:=ziN (x := -v) ⟨by omega,by omega⟩;have e:wrap64 (-wrap64 (v:Int)) = -v:=by unfold wrap64;omega
  rw[decide_eq_true h,h1,h2,e];exact ziO _ w
 ·obtain⟨h1,h2⟩:=zjQ (x := -v) (by omega);rw[decide_eq_false h,h1,h2];exact zpE _ w
theorem zgT (a:Nat)(ha:a<4294967296):bits .or .u64 0 (a:Int)=(a:Int):=by
 have e:=u64_or_nat 0 a (by decide) (by omega);rw[Nat.zero_or] at e;exact e
theorem znA (a b:Nat)(ha:a<4294967296)(hb:b<4294967296):bits .or .u64 (bits .or .u64 0 (a:Int)) ((b:Int)*4294967296)=((val [a,b]:Nat):Int):=by
 have e:=u64_or_nat a (b*4294967296) (by omega) (by omega);rw[zgT a ha,show((b:Int)*4294967296)=((b*4294967296:Nat):Int) by simp,e];rw[Nat.or_comm,nat_join 32 _ _ (by simp) ha];simp only[val];omega
theorem zrL (s:Bool)(A:Option Addr)(c:Nat)(a b:Nat)(w:World)(h:Us w A c [a,b]) :
  Calls Tryz.prog 147 #[.agg #[.bool s,.slice A 2 c]] w fun e w'=>e=.returned (.tuple #[.int .i64 (outI (ival s [a,b])),.bool (inI (ival s [a,b]))])∧Below w.heap.size w w':=by
 obtain⟨hX,hB⟩:=box1 w (.bool s) (.slice A 2 c) 48;have h1:=h.below hB;obtain⟨g,off,rfl,hg,hc⟩:=h1.at_ (by simp)
 have c0:=hc 0 (by simp);have c1:=hc 1 (by simp);simp only[List.getElem?_cons_zero,List.getElem?_cons_succ,Option.getD_some,Nat.add_zero] at c0 c1;have ha:=h.1.head;have hb:=h.1.tail.head;have HB:=Hh hB;clear hc h h1 hX hB;unfold ival;have HE:=Hh (znA a b ha hb);generalize val [a,b]=v at *;go_enter Tryz.func147,Tryz.ntmps147;go_wp2_with fail;refine wp_loop_rounds 3 ?_;rw[rounds_succ];go_wp2_with fail;rw[rounds_succ];go_wp2_with fail;rw[rounds_succ];cases s
 ·go_wp2_with (go_at_call 193;rw[HE.out];refine(zmm v _).mono ?_;rintro e w' ⟨rfl,rfl⟩);go_ret2;exact⟨rfl,HB.out⟩
 ·go_wp2_with (go_at_call 193;rw[HE.out];refine(zmn v _).mono ?_;rintro e w' ⟨rfl,rfl⟩);go_ret2;exact⟨rfl,HB.out⟩
theorem zrM (s:Bool)(A:Option Addr)(c:Nat)(a:Nat)(w:World)(h:Us w A c [a]) :
  Calls Tryz.prog 147 #[.agg #[.bool s,.slice A 1 c]] w fun e w'=>e=.returned (.tuple #[.int .i64 (outI (ival s [a])),.bool (inI (ival s [a]))])∧Below w.heap.size w w':=by
 obtain⟨hX,hB⟩:=box1 w (.bool s) (.slice A 1 c) 48;have h1:=h.below hB;obtain⟨g,off,rfl,hg,hc⟩:=h1.at_ (by simp)
 have c0:=hc 0 (by simp);simp only[List.getElem?_cons_zero,List.getElem?_cons_succ,Option.getD_some,Nat.add_zero] at c0;have ha:=h.1.head;have HB:=Hh hB;clear hc h h1 hX hB;have ev:val [a]=a:=by simp[val]
 unfold ival;rw[ev];have HE:=Hh (zgT a ha);clear ev;go_enter Tryz.func147,Tryz.ntmps147;go_wp2_with fail;refine wp_loop_rounds 2 ?_;rw[rounds_succ];go_wp2_with fail;rw[rounds_succ];cases s
 ·go_wp2_with (go_at_call 193;rw[HE.out];refine(zmm a _).mono ?_;rintro e w' ⟨rfl,rfl⟩);go_ret2;exact⟨rfl,HB.out⟩
 ·go_wp2_with (go_at_call 193;rw[HE.out];refine(zmn a _).mono ?_;rintro e w' ⟨rfl,rfl⟩);go_ret2;exact⟨rfl,HB.out⟩
theorem zpF (s:Bool)(A:Option Addr)(c:Nat)(w:World) :
  Calls Tryz.prog 147 #[.agg #[.bool s,.slice A 0 c]] w fun e w'=>e=.returned (.tuple #[.int .i64 (outI 0),.bool (inI 0)])∧Below w.heap.size w w':=by
 obtain⟨hX,hB⟩:=box1 w (.bool s) (.slice A 0 c) 48;have HB:=Hh hB;clear hX hB;go_enter Tryz.func147,Tryz.ntmps147;go_wp2_with fail;refine wp_loop_rounds 1 ?_;rw[rounds_succ];cases s
 all_goals
  go_wp2_with (go_at_call 193;refine(ziO 0 _).mono ?_;rintro e w' ⟨rfl,rfl⟩);go_ret2;exact⟨rfl,HB.out⟩
theorem zpG (s:Bool)(A:Option Addr)(c n:Nat)(w:World)(hn:2<n)(hc:n≤9223372036854775807) :
  Calls Tryz.prog 147 #[.agg #[.bool s,.slice A n c]] w fun e w'=>e=.returned (.tuple #[.int .i64 0,.bool false])∧Below w.heap.size w w':=by
 obtain⟨hX,hB⟩:=box1 w (.bool s) (.slice A n c) 48;have HB:=Hh hB;clear hX hB;go_enter Tryz.func147,Tryz.ntmps147;go_wp2_with fail;go_ret2;exact⟨rfl,HB.out⟩
theorem zmo (s:Bool)(A:Option Addr)(c:Nat)(xs:List Nat)(w:World)(h:Us w A c xs)(hc:zaT xs) :
  Calls Tryz.prog 147 #[.agg #[.bool s,.slice A xs.length c]] w fun e w'=>e=.returned (.tuple #[.int .i64 (outI (ival s xs)),.bool (inI (ival s xs))])∧Below w.heap.size w w':=by
 rcases xs with _|⟨a,_|⟨b,_|⟨d,r⟩⟩⟩
 ·rw[zfO];exact zpF s A c w
 ·exact zrM s A c a w h
 ·exact zrL s A c a b w h
 ·have hge:=zfL hc (by simp);have h2:(4294967296:Nat)^2≤4294967296^((a :: b :: d :: r).length-1):=Nat.pow_le_pow_right (by decide) (by simp);have hv:=zew s (a :: b :: d :: r);obtain⟨h1,h2⟩:=zjQ (x:=ival s (a :: b :: d :: r)) (by omega);rw[h1,h2];exact zpG s A c _ w (by simp) (by have:=h.cap;omega)
end Go.Proofs.YtcippfaljoagaaaGreatDoor

namespace Go.Proofs.YtcippfaljoagaaaGreatDoor
open Nds
def zcf (t:Tr)(u v:Int)(M:Int→Int→Int):Int→Int→Int:=fun r c=>if zah t (c-u) (r-v)=0 then M r c else zah t (c-u) (r-v)
theorem ztY (u v:Int)(M:Int→Int→Int):zcf .e u v M=M:=by
 funext r c;unfold zcf;rw[zbB,if_pos rfl]
theorem zrN {k:Int}(hk:k≠0)(u v:Int)(M:Int→Int→Int):zcf (st k) u v M=fun r c=>if r=v∧c=u then k else M r c:=by
 funext r c;unfold zcf st;rw[if_neg hk];unfold zah;by_cases h:r=v∧c=u
 ·rw[if_pos (show c-u=0∧r-v=0 by omega),if_neg hk,if_pos h]
 ·rw[if_neg (show ¬ (c-u=0∧r-v=0) by omega),if_pos rfl,if_neg h]
theorem zrO {m:Nat}{a b c d:Tr}(ha:wfT (m:Int) a)(hb:wfT (m:Int) b)(hc:wfT (m:Int) c)(hd:wfT (m:Int) d)(u v:Int)(M:Int→Int→Int) :
  zcf (mk ((m:Int)+1) a b c d) u v M=zcf d (u+p2 m) (v+p2 m) (zcf c u (v+p2 m) (zcf b (u+p2 m) v (zcf a u v M))):=by
 funext y x;unfold zcf;rw[zdy ha hb hc hd,show x-u-p2 m=x-(u+p2 m) by omega,show y-v-p2 m=y-(v+p2 m) by omega];have ia:=zar a m (x-u) (y-v) ha;have ib:=zar b m (x-(u+p2 m)) (y-v) hb;have ic:=zar c m (x-u) (y-(v+p2 m)) hc;have id:=zar d m (x-(u+p2 m)) (y-(v+p2 m)) hd;revert ia ib ic id;generalize zah a (x-u) (y-v)=ka;generalize zah b (x-(u+p2 m)) (y-v)=kb;generalize zah c (x-u) (y-(v+p2 m))=kc;generalize zah d (x-(u+p2 m)) (y-(v+p2 m))=kd;intro ia ib ic id;by_cases h3:kd=0
 ·by_cases h2:kc=0
  ·by_cases h1:kb=0
   ·subst h1 h2 h3;simp only[Int.add_zero,if_true]
   ·have z0:ka=0:=Classical.byContradiction fun h=>by have:=ia h;have:=ib h1;omega
    subst z0 h2 h3;simp only[Int.add_zero,Int.zero_add,if_true,if_neg h1]
  ·have z0:ka=0:=Classical.byContradiction fun h=>by have:=ia h;have:=ic h2;omega
   have z1:kb=0:=Classical.byContradiction fun h=>by have:=ib h;have:=ic h2;omega
   subst z0 z1 h3;simp only[Int.add_zero,Int.zero_add,if_true,if_neg h2]
 ·have z0:ka=0:=Classical.byContradiction fun h=>by have:=ia h;have:=id h3;omega
  have z1:kb=0:=Classical.byContradiction fun h=>by have:=ib h;have:=id h3;omega
  have z2:kc=0:=Classical.byContradiction fun h=>by have:=ic h;have:=id h3;omega
  subst z0 z1 z2;simp only[Int.zero_add,if_neg h3]
def InP (t:Tr)(u v:Int)(wide high:Nat):Prop:=∀x y,zah t x y≠0→0≤u+x∧u+x<wide∧0≤v+y∧v+y<high
theorem zvs {k:Int}(hk:k≠0){u v:Int}{wide high:Nat}(h:InP (st k) u v wide high):0≤u∧u<wide∧0≤v∧v<high:=by
 have:=h 0 0 (by unfold st;rw[if_neg hk];exact hk);omega
theorem zvt {m:Nat}{a b c d:Tr}(ha:wfT (m:Int) a)(hb:wfT (m:Int) b)(hc:wfT (m:Int) c)(hd:wfT (m:Int) d){u v:Int}{wide high:Nat}(h:InP (mk ((m:Int)+1) a b c d) u v wide high) :
  InP a u v wide high∧InP b (u+p2 m) v wide high∧InP c u (v+p2 m) wide high∧InP d (u+p2 m) (v+p2 m) wide high:=by
 refine⟨fun x y k=>?_,fun x y k=>?_,fun x y k=>?_,fun x y k=>?_⟩
 ·have i:=zar a m x y ha k;refine h x y ?_;rw[zdy ha hb hc hd,zaq hb (by omega),zaq hc (by omega),zaq hd (by omega),Int.add_zero,Int.add_zero,Int.add_zero];exact k
 ·have i:=zar b m x y hb k;have:=h (x+p2 m) y (by
   rw[zdy ha hb hc hd,zaq ha (by omega),zaq hc (by omega),zaq hd (by omega),Int.add_zero,Int.add_zero,Int.zero_add,show x+p2 m-p2 m=x by omega];exact k)
  omega
 ·have i:=zar c m x y hc k;have:=h x (y+p2 m) (by
   rw[zdy ha hb hc hd,zaq ha (by omega),zaq hb (by omega),zaq hd (by omega),Int.add_zero,Int.add_zero,Int.zero_add,show y+p2 m-p2 m=y by omega];exact k)
  omega
 ·have i:=zar d m x y hd k;have:=h (x+p2 m) (y+p2 m) (by
   rw[zdy ha hb hc hd,zaq ha (by omega),zaq hb (by omega),zaq hc (by omega),Int.add_zero,Int.add_zero,Int.zero_add,show x+p2 m-p2 m=x by omega,show y+p2 m-p2 m=y by omega];exact k)
  omega
theorem low_add (u:Int)(h:Int):(u%4294967296+h%4294967296)%4294967296=(u+h)%4294967296:=by omega
theorem zmp {u:Int}(h:0≤u∧u<1000):u%4294967296=u:=by omega
theorem zld (t:Tr)(u v r c:Int):zcf t u v (fun _ _=>0) r c=zah t (c-u) (r-v):=by
 unfold zcf;split
 ·rename_i h;rw[h]
 ·rfl
end Go.Proofs.YtcippfaljoagaaaGreatDoor

namespace Go.Proofs.YtcippfaljoagaaaGreatDoor
open Go.RowKit
def rowV (R:Nat→Nat)(wide j k:Nat):Value:=if k<j then .slice (some ⟨R k,0,none⟩) wide wide else .slice none 0 0
def zdC (M:Int→Int→Int)(k wide:Nat):List Value:=(List.range wide).map fun(i:Nat)=>.int .u8 (M k i)
structure PicR (tB tR:TypeId)(base g wide high j:Nat)(R:Nat→Nat)(M:Int→Int→Int)(W:World):Prop where
 rows:W.ownsRow base tR 1 (.slice (some ⟨g,0,none⟩) high high) high ((List.range high).map (rowV R wide j))
 row:∀k,k<j→W.ownsRow base tB 1 (.slice (some ⟨R k,0,none⟩) wide wide) wide (zdC M k wide)
 inj:∀a b,a<j→b<j→R a=R b→a=b
 off:∀k,k<j→R k≠g
variable {tB tR:TypeId} {base g wide high j:Nat} {R:Nat→Nat} {M:Int→Int→Int} {W:World}
theorem gbX {w w':World}(h:Below w.heap.size w w'):w.grownBy w' none:=⟨h.os,h.tape,h.output,h.size,fun k hk _=>h.block k hk⟩
theorem zgf {k i:Nat}(h:i<wide):(zdC M k wide)[i]?=some (.int .u8 (M k i)):=by
 unfold zdC;rw[List.getElem?_map,List.getElem?_range h];rfl
theorem PicR.rowAt (h:PicR tB tR base g wide high j R M W){k:Nat}(hk:k<high):W.cell? ⟨g,k,none⟩=some (rowV R wide j k):=by
 rw[h.rows.cellAt k (by omega),List.getElem?_map,List.getElem?_range hk];rfl
theorem PicR.at_ (h:PicR tB tR base g wide high j R M W){k:Nat}(hk:k<high)(hj:k<j):W.cell? ⟨g,k,none⟩=some (.slice (some ⟨R k,0,none⟩) wide wide):=by
 rw[h.rowAt hk];unfold rowV;rw[if_pos hj]
theorem PicR.get (h:PicR tB tR base g wide high j R M W){k i:Nat}(hk:k<j)(hi:i<wide):W.cell? ⟨R k,i,none⟩=some (.int .u8 (M k i)):=by
 rw[(h.row k hk).cellAt i (by omega),zgf hi]
theorem PicR.free (h:PicR tB tR base g wide high j R M W){k:Nat}(hk:k<j)(i:Nat):W.frozen? ⟨R k,i,none⟩=false:=(h.row k hk).frozenAt i
theorem PicR.freeG (h:PicR tB tR base g wide high j R M W)(i:Nat):W.frozen? ⟨g,i,none⟩=false:=h.rows.frozenAt i
theorem PicR.ltG (h:PicR tB tR base g wide high j R M W):base≤g∧g<W.heap.size:=h.rows.lt g rfl
theorem PicR.ltR (h:PicR tB tR base g wide high j R M W){k:Nat}(hk:k<j):base≤R k∧R k<W.heap.size:=(h.row k hk).lt (R k) rfl
theorem PicR.next (h:PicR tB tR base g wide high j R M W){W':World}(b:Below W.heap.size W W'):PicR tB tR base g wide high j R M W' :=
 ⟨h.rows.kept (gbX b) (.inr (by simp[Value.ownBlock])),fun k hk=>(h.row k hk).kept (gbX b) (.inr (by simp[Value.ownBlock])),h.inj,h.off⟩
theorem PicR.other (h:PicR tB tR base g wide high j R M W){p:Addr}(hg:p.block≠g)(hr:∀k,k<j→p.block≠R k)(u:Value):PicR tB tR base g wide high j R M (W.setCell p u):=by
 have key:W.grownBy (W.setCell p u) (some p.block):=⟨rfl,rfl,rfl,by simp[World.setCell],fun k _ hk=>heap_setCell_other W p k u (fun e=>hk (by simp[e]))⟩;exact⟨h.rows.kept key (.inr (by simpa [Value.ownBlock] using fun e=>hg e.symm)),fun k hk=>(h.row k hk).kept key (.inr (by simpa [Value.ownBlock] using fun e=>hr k hk e.symm)),h.inj,h.off⟩
theorem PicR.set (h:PicR tB tR base g wide high j R M W){k i:Nat}(hk:k<j)(hi:i<wide)(s:Int) :
  PicR tB tR base g wide high j R (fun r c=>if r=k∧c=i then s else M r c) (W.setCell ⟨R k,i,none⟩ (.int .u8 s)):=by
 obtain⟨h1,h2⟩:=(h.row k hk).stored i (.int .u8 s);refine⟨h.rows.kept h2 (.inr (by simpa [Value.ownBlock] using fun e=>h.off k hk e.symm)),fun a ha=>?_,h.inj,h.off⟩;by_cases e:a=k
 ·subst e;have e2:zdC (fun r c=>if r=(a:Int)∧c=(i:Int) then s else M r c) a wide=(zdC M a wide).set i (.int .u8 s):=by
   refine List.ext_getElem? fun t=>?_;by_cases ht:t<wide
   ·rw[zgf ht,List.getElem?_set];by_cases hit:i=t
    ·subst hit;rw[if_pos rfl,if_pos (show i<(zdC M a wide).length by unfold zdC;rw[List.length_map,List.length_range];exact ht)];simp
    ·rw[if_neg hit,zgf ht,if_neg (by omega)]
   ·rw[List.getElem?_eq_none (by simp[zdC];omega),List.getElem?_eq_none (by simp[zdC];omega)]
  rw[e2];exact h1
 ·have e2:zdC (fun r c=>if r=(k:Int)∧c=(i:Int) then s else M r c) a wide=zdC M a wide:=by
   unfold zdC;refine List.map_congr_left fun t _=>?_;show Value.int .u8 (if (a:Int)=k∧(t:Int)=i then s else M a t)=_;rw[if_neg (by omega)]
  rw[e2];exact(h.row a ha).kept h2 (.inr (by simpa [Value.ownBlock] using fun e3=>e (h.inj a k ha hk e3)))
theorem PicR.more (h:PicR tB tR base g wide high j R (fun _ _=>0) W)(hj:j<high){W':World}{r:Nat}(b:Below W.heap.size W W')(hr:W.heap.size≤r)
  (ho:W'.ownsRow base tB 1 (.slice (some ⟨r,0,none⟩) wide wide) wide (List.replicate wide (.int .u8 0))) :
  PicR tB tR base g wide high (j+1) (fun k=>if k=j then r else R k) (fun _ _=>0) (W'.setCell ⟨g,j,none⟩ (.slice (some ⟨r,0,none⟩) wide wide)):=by
 have h':=h.next b;obtain⟨h1,h2⟩:=h'.rows.stored j (.slice (some ⟨r,0,none⟩) wide wide);have hg:=h.ltG;refine⟨?_,fun k hk=>?_,fun a b2 ha hb he=>?_,fun k hk=>?_⟩
 ·have e:(List.range high).map (rowV (fun k=>if k=j then r else R k) wide (j+1))=((List.range high).map (rowV R wide j)).set j (.slice (some ⟨r,0,none⟩) wide wide):=by
   refine List.ext_getElem? fun t=>?_;by_cases ht:t<high
   ·rw[List.getElem?_map,List.getElem?_range ht,List.getElem?_set];by_cases hjt:j=t
    ·subst hjt;rw[if_pos rfl,if_pos (by simpa using ht)];show some (rowV _ wide (j+1) j)=_;unfold rowV;rw[if_pos (by omega)];simp
    ·rw[if_neg hjt,List.getElem?_map,List.getElem?_range ht];show some (rowV _ wide (j+1) t)=some (rowV R wide j t);unfold rowV;by_cases hlt:t<j
     ·rw[if_pos (by omega),if_pos hlt];simp[show ¬ t=j by omega]
     ·rw[if_neg (by omega),if_neg hlt]
   ·rw[List.getElem?_eq_none (by simpa using ht),List.getElem?_eq_none (by simpa using ht)]
  rw[e];exact h1
 ·by_cases e:k=j
  ·subst e;simp only[if_true];have e2:zdC (fun _ _=>0) k wide=List.replicate wide (.int .u8 0):=by
    unfold zdC;refine List.ext_getElem? fun t=>?_;by_cases ht:t<wide
    ·rw[List.getElem?_map,List.getElem?_range ht,List.getElem?_replicate,if_pos ht];rfl
    ·rw[List.getElem?_eq_none (by simpa using ht),List.getElem?_eq_none (by simpa using ht)]
   rw[e2];exact ho.kept h2 (.inr (by simp[Value.ownBlock];omega))
  ·simp only[if_neg e];exact(h'.row k (by omega)).kept h2 (.inr (by have:=h.off k (by omega);simpa [Value.ownBlock] using this))
 ·by_cases e1:a=j
  ·by_cases e2:b2=j
   ·omega
   ·simp only[if_pos e1,if_neg e2] at he;have:=h.ltR (k:=b2) (by omega);omega
  ·by_cases e2:b2=j
   ·simp only[if_neg e1,if_pos e2] at he;have:=h.ltR (k:=a) (by omega);omega
   ·simp only[if_neg e1,if_neg e2] at he;exact h.inj a b2 (by omega) (by omega) he
 ·by_cases e:k=j
  ·simp only[if_pos e];omega
  ·simp only[if_neg e];exact h.off k (by omega)
end Go.Proofs.YtcippfaljoagaaaGreatDoor

namespace Go.Proofs.YtcippfaljoagaaaGreatDoor
def strM (M:Int→Int→Int)(k wide:Nat):List UInt8:=(List.range wide).map fun(i:Nat)=>UInt8.ofNat (M k i).toNat
def zcL (M:Int→Int→Int)(wide high:Nat):List (List UInt8):=(List.range high).map fun k=>strM M k wide
theorem zbQ (M:Int→Int→Int)(k wide:Nat):(strM M k wide).length=wide:=by
 unfold strM;rw[List.length_map,List.length_range]
theorem zcX (M:Int→Int→Int)(wide high:Nat):(zcL M wide high).length=high:=by
 unfold zcL;rw[List.length_map,List.length_range]
theorem zjR {z:Int}(h:0≤z∧z≤255):((UInt8.ofNat z.toNat).toNat:Int)=z:=by
 rw[UInt8.toNat_ofNat'];omega
theorem zpH (M:Int→Int→Int){k wide i:Nat}(hi:i<wide):(strM M k wide)[i]?=some (UInt8.ofNat (M k i).toNat):=by
 unfold strM;rw[List.getElem?_map,List.getElem?_range hi];rfl
end Go.Proofs.YtcippfaljoagaaaGreatDoor

namespace Go.Proofs.YtcippfaljoagaaaGreatDoor
open Nds
def picM (t:Tr)(X Y:Int):Int→Int→Int:=fun r c=>zaH t (X+c) (Y+r)
theorem znB (t:Tr)(X Y:Int):zcf t (-p2 (t.lv.toNat-1)-X) (-p2 (t.lv.toNat-1)-Y) (fun _ _=>0)=picM t X Y:=by
 funext r c;rw[zld];unfold picM zaH;rw[show c-(-p2 (t.lv.toNat-1)-X)=X+c+p2 (t.lv.toNat-1) by omega,show r-(-p2 (t.lv.toNat-1)-Y)=Y+r+p2 (t.lv.toNat-1) by omega]
theorem BoxT.inP {t:Tr}{n:Nat}{X Y:Int}{wide high:Nat}(a:BoxT t n X Y wide high)(hn:t.lv.toNat=n):InP t (-p2 (n-1)-X) (-p2 (n-1)-Y) wide high:=fun x y h=>by
 have:=a.cell hn (X:=x-p2 (n-1)) (Y:=y-p2 (n-1)) (by
  unfold zaH;rw[hn,show x-p2 (n-1)+p2 (n-1)=x by omega,show y-p2 (n-1)+p2 (n-1)=y by omega];exact h)
 omega
end Go.Proofs.YtcippfaljoagaaaGreatDoor

namespace Go.Proofs.YtcippfaljoagaaaGreatDoor
open Nds Num
def kidX (u:Int)(m j:Nat):Int:=u+((j%2:Nat):Int)*p2 m
def kidY (v:Int)(m j:Nat):Int:=v+((j / 2:Nat):Int)*p2 m
def zfz (q:Nat→Tr)(u v:Int)(m:Nat)(M:Int→Int→Int):Nat→Int→Int→Int
 | 0=>M
 | j+1=>zcf (q j) (kidX u m j) (kidY v m j) (zfz q u v m M j)
theorem zhM {l:List Nd}(hl:zac l=true){x:Nd}{m:Nat}(hx:fitB l x=true)(hv:x.lv=(m:Int)+1)(u v:Int)(M:Int→Int→Int) :
  zcf (norm (dens l) x) u v M=zfz (fun i=>kidT (dens l) ((m:Int)+1) (x.kid i)) u v m M 4:=by
 have hw:∀i,i<4→wfT (m:Int) (kidT (dens l) ((m:Int)+1) (x.kid i)):=fun i hi=>zpb hl (by have:=zak hx hi;rwa [hv] at this);rw[ziG hv,zrO (hw 0 (by omega)) (hw 1 (by omega)) (hw 2 (by omega)) (hw 3 (by omega))];have e0:∀u:Int,u+((0:Nat):Int)*p2 m=u:=fun u=>by omega
 have e1:∀u:Int,u+((1:Nat):Int)*p2 m=u+p2 m:=fun u=>by omega
 show _=zcf _ (u+((1:Nat):Int)*p2 m) (v+((1:Nat):Int)*p2 m) (zcf _ (u+((0:Nat):Int)*p2 m) (v+((1:Nat):Int)*p2 m) (zcf _ (u+((1:Nat):Int)*p2 m) (v+((0:Nat):Int)*p2 m) (zcf _ (u+((0:Nat):Int)*p2 m) (v+((0:Nat):Int)*p2 m) M)));simp only[e0,e1]
theorem zpI {l:List Nd}(hl:zac l=true){x:Nd}{m:Nat}(hx:fitB l x=true)(hv:x.lv=(m:Int)+1){u v:Int}{wide high:Nat}(h:InP (norm (dens l) x) u v wide high){j:Nat}(hj:j<4) :
  InP (kidT (dens l) ((m:Int)+1) (x.kid j)) (kidX u m j) (kidY v m j) wide high:=by
 have hw:∀i,i<4→wfT (m:Int) (kidT (dens l) ((m:Int)+1) (x.kid i)):=fun i hi=>zpb hl (by have:=zak hx hi;rwa [hv] at this);rw[ziG hv] at h;obtain⟨h0,h1,h2,h3⟩:=zvt (hw 0 (by omega)) (hw 1 (by omega)) (hw 2 (by omega)) (hw 3 (by omega)) h;have e0:∀u:Int,u+((0:Nat):Int)*p2 m=u:=fun u=>by omega
 have e1:∀u:Int,u+((1:Nat):Int)*p2 m=u+p2 m:=fun u=>by omega
 match j,hj with
 | 0,_=>show InP _ (u+((0:Nat):Int)*p2 m) (v+((0:Nat):Int)*p2 m) _ _;rw[e0,e0];exact h0
 | 1,_=>show InP _ (u+((1:Nat):Int)*p2 m) (v+((0:Nat):Int)*p2 m) _ _;rw[e1,e0];exact h1
 | 2,_=>show InP _ (u+((0:Nat):Int)*p2 m) (v+((1:Nat):Int)*p2 m) _ _;rw[e0,e1];exact h2
 | 3,_=>show InP _ (u+((1:Nat):Int)*p2 m) (v+((1:Nat):Int)*p2 m) _ _;rw[e1,e1];exact h3
theorem zhN {ts:List Tr}{k v':Int}(hk:k=0)(hz:kidT ts v' 0=.e)(q:Nat→Tr)(u v:Int)(m:Nat)(M:Int→Int→Int){j:Nat}(hq:q j=kidT ts v' k):zfz q u v m M (j+1)=zfz q u v m M j:=by
 show zcf (q j) _ _ _=_;rw[hq,hk,hz,ztY]
theorem ztZ (u:Int)(m:Nat){b:Nat}(hb:b<2):(u%4294967296+((b:Int)*(p2 m%4294967296))%4294967296)%4294967296=(u+(b:Int)*p2 m)%4294967296:=by
 match b,hb with
 | 0,_=>show(u%4294967296+((0:Int)*_)%4294967296)%4294967296=(u+(0:Int)*_)%4294967296;omega
 | 1,_=>show(u%4294967296+((1:Int)*_)%4294967296)%4294967296=(u+(1:Int)*_)%4294967296;omega
theorem zua {x:Nat}{r:List Nat}(hx:x<4294967296):ival false (x :: r)%4294967296=x∧ival true (x :: r)%4294967296=(-(x:Int))%4294967296:=by
 have e:val (x :: r)=x+4294967296*val r:=rfl;unfold ival;simp only[Bool.false_eq_true,if_false,if_true,e];omega
theorem zmq (n:Nat)(X:Int):((-(p2 n%4294967296))%4294967296-X%4294967296)%4294967296=(-p2 n-X)%4294967296:=by omega
end Go.Proofs.YtcippfaljoagaaaGreatDoor

namespace Go.Proofs.YtcippfaljoagaaaGreatDoor
open Nds
theorem zmr {q:List Nd}(hq:zac q=true)(X Y r c:Int):0≤picM (den q q.length) X Y r c∧picM (den q q.length) X Y r c≤255:=zjA hq (X+c) (Y+r)
end Go.Proofs.YtcippfaljoagaaaGreatDoor

namespace Go.Proofs.YtcippfaljoagaaaGreatDoor
open Go.RowKit Num
theorem zpJ (k:Nat):(2:Int)^(min k 32)%4294967296=2^k%4294967296:=by
 by_cases h:k≤32
 ·rw[Nat.min_eq_left h]
 ·obtain⟨d,rfl⟩:∃d,k=32+d:=⟨k-32,by omega⟩;rw[Nat.min_eq_right (by omega),Int.pow_add,show(2:Int)^32=4294967296 by decide,Int.mul_emod_right];rfl
theorem ziP (k:Nat)(w:World)(hk:k≤1400) :
  Calls Tryz.prog 148 #[.int .i64 (k:Int)] w fun e w'=>e=.returned (.int .u32 ((2:Int)^k%4294967296))∧Below w.heap.size w w':=by
 go_enter Tryz.func148,Tryz.ntmps148;go_wp2_with fail;rw[zpJ];go_ret;exact⟨rfl,Below.refl _ w⟩
theorem zpK (s:Bool)(A:Option Addr)(n c:Nat)(xs:List Nat)(w:World)(h:Us w A c xs)(hn:xs.length=n) :
  Calls Tryz.prog 150 #[.agg #[.bool s,.slice A n c]] w fun e w'=>e=.returned (.int .u32 ((if s then -((xs.getD 0 0:Nat):Int) else ((xs.getD 0 0:Nat):Int))%4294967296))∧Below w.heap.size w w':=by
 cases xs with
 | nil =>
  obtain rfl:0=n:=hn;cases s with
  | false =>
   go_enter Tryz.func150,Tryz.ntmps150;go_wp2_with fail;go_ret;exact⟨rfl,(Below.refl _ w).alloc (Nat.le_refl _) _⟩
  | true =>
   go_enter Tryz.func150,Tryz.ntmps150;go_wp2_with fail;go_ret;exact⟨rfl,(Below.refl _ w).alloc (Nat.le_refl _) _⟩
 | cons x r =>
  obtain⟨b,off,rfl,hlt,hc⟩:=h.at_ (by simp)
  have hg:((n:Int)==0)=false:=by simp at hn;simp;omega
  have hp:0<n:=by simp at hn;omega
  have h0:w.cell? ⟨b,off,none⟩=some (.int .u32 (x:Int)):=hc 0 (by simp);have hx:(x:Int)%4294967296=x:=by have:=h.1 x (by simp);omega
  clear h hc;cases s with
  | false =>
   go_enter Tryz.func150,Tryz.ntmps150;go_wp2_with fail;go_ret;exact⟨rfl,(Below.refl _ w).alloc (Nat.le_refl _) _⟩
  | true =>
   go_enter Tryz.func150,Tryz.ntmps150;go_wp2_with fail;go_ret;exact⟨rfl,(Below.refl _ w).alloc (Nat.le_refl _) _⟩
end Go.Proofs.YtcippfaljoagaaaGreatDoor

namespace Go.Proofs.YtcippfaljoagaaaGreatDoor
open Go.RowKit Num Nds
def RowP (R:Nat→Nat)(high:Nat):Nat→Prop:=fun k=>∃i,i<high∧k=R i
structure PnI (base:Nat)(l:List Nd)(n cq:Nat)(Aq:Option Addr)(gp g wide high:Nat)(R:Nat→Nat)(M:Int→Int→Int)(W:World):Prop where
 ns:Ns W Aq cq l
 qa:∀a,Aq=some a→¬ RowP R high a.block
 pk:W.heap[gp]?=some (.cells #[.slice Aq n cq,.slice (some ⟨g,0,none⟩) high high] 184)
 pr:¬ RowP R high gp
 pic:PicR 5 75 base g wide high high R M W
theorem Ns.ky {P:Nat→Prop}{W W':World}{A:Option Addr}{c:Nat}{l:List Nd}(h:Ns W A c l)(hA:∀a,A=some a→¬ P a.block)(k:Ky P W W'):Ns W' A c l :=
 ⟨h.1,h.2.1,h.2.2.1,fun h0=>by
  obtain⟨b,off,e,hlt,hc⟩:=h.2.2.2 h0;exact⟨b,off,e,Nat.lt_of_lt_of_le hlt k.size,fun i hi=>k.nd (hc i hi) hlt (hA _ e)⟩⟩
section
variable {base:Nat} {l:List Nd} {n cq:Nat} {Aq:Option Addr} {gp g wide high:Nat} {R:Nat→Nat} {M M':Int→Int→Int} {W W':World}
theorem PnI.ky (h:PnI base l n cq Aq gp g wide high R M W)(k:Ky (RowP R high) W W')(p:PicR 5 75 base g wide high high R M' W'):PnI base l n cq Aq gp g wide high R M' W' :=
 ⟨h.ns.ky h.qa k,h.qa,(k.block gp (zad h.pk) h.pr).trans h.pk,h.pr,p⟩
theorem PnI.next (h:PnI base l n cq Aq gp g wide high R M W)(k:Below W.heap.size W W'):PnI base l n cq Aq gp g wide high R M W' :=
 h.ky ((Ky.refl _ W).below k) (h.pic.next k)
theorem PnI.cells (h:PnI base l n cq Aq gp g wide high R M W):W.cell? ⟨gp,0,none⟩=some (.slice Aq n cq)∧W.cell? ⟨gp,1,none⟩=some (.slice (some ⟨g,0,none⟩) high high) :=
 ⟨(cell_of_row W gp 0 _ _ (0,0) h.pk).trans rfl,(cell_of_row W gp 1 _ _ (0,0) h.pk).trans rfl⟩
end
def zwa (base g wide high:Nat)(R:Nat→Nat)(M:Int→Int→Int)(w:World)(e:Ending)(w':World):Prop :=
 e=.returned (.tuple #[])∧Ky (RowP R high) w w'∧PicR 5 75 base g wide high high R M w'
theorem zms (u:Int)(d:Nat){b:Int}(h0:0≤b)(h1:b<2){j:Nat}{k:Nat→Nat}(hb:b=((k j:Nat):Int)):(u%4294967296+b*((2:Int)^d%4294967296))%4294967296=(u+((k j:Nat):Int)*p2 d)%4294967296:=by
 have:=ztZ u d (b:=k j) (by omega);rw[←hb] at this ⊢;rw[←this];show _=(u%4294967296+(b*((2:Int)^d%4294967296))%4294967296)%4294967296;generalize b*((2:Int)^d%4294967296)=X;omega
theorem zpL (base n cq:Nat)(l:List Nd)(Aq:Option Addr)(gp g wide high:Nat)(R:Nat→Nat)(hl:zac l=true)(hn:l.length=n)(hwd:wide≤1000)(hhg:high≤1000) :
  ∀(m:Nat) (x:Nd) (u v:Int) (M:Int→Int→Int) (w:World),m≤1328→x.lv=(m:Int)+1→x.wf→fitB l x=true→InP (norm (dens l) x) u v wide high→PnI base l n cq Aq gp g wide high R M w →
   Calls Tryz.prog 149 #[.pointer (some ⟨gp,0,none⟩),ndv x,.int .u32 (u%4294967296),.int .u32 (v%4294967296)] w (zwa base g wide high R (zcf (norm (dens l) x) u v M) w):=by
 intro m
 induction m with
 | zero =>
  intro x u v M w hm hv hwf hf hp hI;have HL:=Hh hn;obtain⟨d,hd⟩:∃d:Nat,d=0:=⟨_,rfl⟩;rw[show(((0:Nat)):Int)=(d:Int) by rw[hd]] at hv;have HD:=Hh hd;obtain⟨q,hq⟩:∃q:Nat→Tr,q=fun i=>kidT (dens l) ((d:Int)+1) (x.kid i):=⟨_,rfl⟩;have ho4:=zhM hl hf hv u v M;rw[←hq] at ho4;rw[ho4];have HK:=Hh (show ∀j,j<4→InP (q j) (kidX u d j) (kidY v d j) wide high from fun j hj=>by rw[hq];exact zpI hl hf hv hp hj);have HQ:=Hh hq;have HF:=Hh hf;have hb:=(Below.refl w.heap.size w).alloc (Nat.le_refl _) (.cells #[.int .i64 x.lv,.int .i64 x.a,.int .i64 x.b,.int .i64 x.c,.int .i64 x.d] 95);have HI:=Hh (hI.next hb);have HB:=Hh (zbo.new w x);have HKY:=Hh ((Ky.refl (RowP R high) w).below hb);have hx1:IntKind.i64.wrap (x.lv-1)=(d:Int):=by rw[hv];rw[show((d:Int)+1-1)=(d:Int) by omega];exact IntWalk.i64_in _ (by omega)
  have HLV:=Hh hv;have NB:=Hh (show ¬ RowP R high w.heap.size from fun⟨i,hi,e⟩=>by have:=(hI.pic.ltR hi).2;omega);obtain⟨H,hH⟩:∃H,H=(2:Int)^d%4294967296:=⟨_,rfl⟩;have HH:=Hh hH;obtain⟨U,hU⟩:∃U,U=u%4294967296:=⟨_,rfl⟩;obtain⟨V,hV⟩:∃V,V=v%4294967296:=⟨_,rfl⟩;rw[←hU,←hV];have HU:=Hh hU;have HV:=Hh hV;obtain⟨c0,c1,c2,c3,c4⟩:=HB.out.cells;have HWF:=Hh hwf;clear hI hb hq ho4 hf hp hH hU hV hn hwf hv hd;go_enter Tryz.func149,Tryz.ntmps149;go_wp2_with (go_at_call 148;go_loud (refine(ziP d _ (by have:=HD.out;omega)).mono ?_;rintro e w1 ⟨rfl,b_⟩;rw[←HH.out];have HI:=Hh (HI.out.next b_);have HKY:=Hh (HKY.out.below b_);have HB:=Hh (HB.out.stay (b_.block _ HB.out.lt));clear b_ c0 c1 c2 c3 c4;obtain⟨c0,c1,c2,c3,c4⟩:=HB.out.cells));go_loopw [19,9,10,11,12] (fun z1 z2 z3 z4 z5 wr=>∃(j:Nat) (v2 v3 v4 v5:Value),z1=.int .i64 j∧z2=v2∧z3=v3∧z4=v4∧z5=v5∧j≤4∧PnI base l n cq Aq gp g wide high R (zfz q u v d M j) wr∧Ky (RowP R high) w wr∧zbo wr w.heap.size x) (fun z1 _ _ _ _ _=>4-(intOf z1).toNat)
  case atStart=>exact⟨0,_,_,_,_,rfl,rfl,rfl,rfl,rfl,by omega,HI.out,HKY.out,HB.out⟩
  case round =>
   obtain⟨j,v2,v3,v4,v5,rfl,rfl,rfl,rfl,rfl,hj,hi,hk,hb⟩:=hrel;clear c0 c1 c2 c3 c4 HI HKY HB;have HI:=Hh hi;have HKY:=Hh hk;have HB:=Hh hb;obtain⟨c0,c1,c2,c3,c4⟩:=hb.cells;obtain⟨p0,p1⟩:=hi.cells;clear hi hk hb;by_cases hlt:j<4
   ·have hidx:=zex x j hlt;have hfk:=zak HF.out hlt;rw[HLV.out] at hfk;obtain⟨y,hy⟩:∃y,y=x.kid j:=⟨_,rfl⟩;rw[←hy] at hidx hfk;have HY:=Hh hy;clear hy;have hkn:=HK.out j hlt;obtain⟨C,hC⟩:∃C,C=kidX u d j%4294967296:=⟨_,rfl⟩;obtain⟨E,hE⟩:∃E,E=kidY v d j%4294967296:=⟨_,rfl⟩;have eC:(U+(j:Int)%2*H)%4294967296=C:=by
     rw[hC,HU.out,HH.out];exact zms u d (by omega) (by omega) (k:=fun i=>i%2) (by show _=((j%2:Nat):Int);omega)
    have eE:(V+(j:Int) / 2*H)%4294967296=E:=by
     rw[hE,HV.out,HH.out];exact zms v d (by omega) (by omega) (k:=fun i=>i / 2) (by show _=((j / 2:Nat):Int);omega)
    have j1:IntKind.i64.wrap ((j:Int)+1)=(j:Int)+1:=IntWalk.i64_in _ (by omega);have HC:=Hh hC;have HE:=Hh hE;clear hC hE;have h1v:(d:Int)+1=1:=by have:=HD.out;omega
    rw[h1v] at hfk;have hqj:q j=st y:=by
     rw[HQ.out];show kidT (dens l) ((d:Int)+1) (x.kid j)=_;rw[←HY.out,h1v,zbO]
    have t3:decide (x.lv>1)=false:=decide_eq_false (by have:=HLV.out;omega);by_cases hy0:y=0
    ·subst hy0;have hz:zfz q u v d M (j+1)=zfz q u v d M j:=zhN (ts:=dens l) (v':=1) HY.out.symm (by rw[zbO];rfl) q u v d M (by rw[hqj,←HY.out];rfl);have HZ:=Hh hz;clear hz hkn hfk hidx eC eE hqj;have hidx2:=zex x j hlt;rw[←HY.out] at hidx2;go_wp2_with fail;go_roundw
     case rel=>exact⟨j+1,_,_,_,_,by go_num,rfl,rfl,rfl,rfl,by omega,by rw[HZ.out];exact HI.out,HKY.out,HB.out⟩
     case measure=>simp[intOf];omega
    ·rw[hqj] at hkn;obtain⟨a1,a2,a3,a4⟩:=zvs hy0 hkn;have hyb:0≤y∧y≤255:=by
      unfold kidB at hfk;rw[if_pos rfl,decide_eq_true_iff] at hfk;exact hfk
     obtain⟨cn,hcn⟩:∃cn:Nat,kidX u d j=(cn:Int):=⟨(kidX u d j).toNat,by omega⟩;obtain⟨rn,hrn⟩:∃rn:Nat,kidY v d j=(rn:Int):=⟨(kidY v d j).toNat,by omega⟩;have eC2:C=(cn:Int):=by rw[HC.out,hcn];exact zmp (by omega)
     have eE2:E=(rn:Int):=by rw[HE.out,hrn];exact zmp (by omega)
     rw[eC2] at eC;rw[eE2] at eE;have hpic:zfz q u v d M (j+1)=fun r c=>if r=(rn:Int)∧c=(cn:Int) then y else zfz q u v d M j r c:=by
      show zcf (q j) (kidX u d j) (kidY v d j) _=_;rw[hqj,zrN hy0,hcn,hrn]
     have k1:rn<high:=by omega
     have k2:cn<wide:=by omega
     have r0:=HI.out.pic.at_ k1 k1
     have r1:=HI.out.pic.get (k:=rn) (i:=cn) k1 k2;have r2:=HI.out.pic.free (k:=rn) k1 cn;have t2:(y==0)=false:=beq_eq_false_iff_ne.2 hy0;have i1:(rn:Int)<(high:Int):=by omega
     have i2:(cn:Int)<(wide:Int):=by omega
     have i3:IntKind.u8.wrap y=y:=by simp[IntKind.wrap,IntKind.bits,IntKind.signed];omega
     have HPC:=Hh hpic;have HK1:=Hh k1;have HK2:=Hh k2;have HJ:=Hh hlt;clear hpic hqj hkn hfk hyb hcn hrn eC2 eE2;go_wp2_with fail;go_roundw
     case rel=>exact⟨j+1,_,_,_,_,by go_num,rfl,rfl,rfl,rfl,by have:=HJ.out;omega,by rw[HPC.out];exact HI.out.ky ((Ky.refl _ wr).set ⟨R rn,cn,none⟩ (fun _=>⟨rn,HK1.out,rfl⟩) _) (HI.out.pic.set HK1.out HK2.out y),HKY.out.trans ((Ky.refl _ wr).set ⟨R rn,cn,none⟩ (fun _=>⟨rn,HK1.out,rfl⟩) _) (fun _ _ h=>h),HB.out.stay (heap_setCell_other wr ⟨R rn,cn,none⟩ w.heap.size _ (fun e=>NB.out ⟨rn,HK1.out,by first|exact e|exact e.symm⟩))⟩
     case measure=>have:=HJ.out;simp[intOf];omega
   ·have e:j=4:=by omega
    subst e;go_wp2_with fail;go_end0;exact⟨rfl,HKY.out,HI.out.pic⟩
 | succ m ih =>
  intro x u v M w hm hv hwf hf hp hI;have HL:=Hh hn;obtain⟨d,hd⟩:∃d,d=m+1:=⟨_,rfl⟩;rw[←hd] at hm hv;have HD:=Hh hd;obtain⟨q,hq⟩:∃q:Nat→Tr,q=fun i=>kidT (dens l) ((d:Int)+1) (x.kid i):=⟨_,rfl⟩;have ho4:=zhM hl hf hv u v M;rw[←hq] at ho4;rw[ho4];have HK:=Hh (show ∀j,j<4→InP (q j) (kidX u d j) (kidY v d j) wide high from fun j hj=>by rw[hq];exact zpI hl hf hv hp hj);have HQ:=Hh hq;have HF:=Hh hf;have hb:=(Below.refl w.heap.size w).alloc (Nat.le_refl _) (.cells #[.int .i64 x.lv,.int .i64 x.a,.int .i64 x.b,.int .i64 x.c,.int .i64 x.d] 95);have HI:=Hh (hI.next hb);have HB:=Hh (zbo.new w x);have HKY:=Hh ((Ky.refl (RowP R high) w).below hb);have hx1:IntKind.i64.wrap (x.lv-1)=(d:Int):=by rw[hv];rw[show((d:Int)+1-1)=(d:Int) by omega];exact IntWalk.i64_in _ (by omega)
  have HLV:=Hh hv;have NB:=Hh (show ¬ RowP R high w.heap.size from fun⟨i,hi,e⟩=>by have:=(hI.pic.ltR hi).2;omega);obtain⟨H,hH⟩:∃H,H=(2:Int)^d%4294967296:=⟨_,rfl⟩;have HH:=Hh hH;obtain⟨U,hU⟩:∃U,U=u%4294967296:=⟨_,rfl⟩;obtain⟨V,hV⟩:∃V,V=v%4294967296:=⟨_,rfl⟩;rw[←hU,←hV];have HU:=Hh hU;have HV:=Hh hV;obtain⟨c0,c1,c2,c3,c4⟩:=HB.out.cells;have HWF:=Hh hwf;clear hI hb hq ho4 hf hp hH hU hV hn hwf hv hd;go_enter Tryz.func149,Tryz.ntmps149;go_wp2_with (go_at_call 148;go_loud (refine(ziP d _ (by omega)).mono ?_;rintro e w1 ⟨rfl,b_⟩;rw[←HH.out];have HI:=Hh (HI.out.next b_);have HKY:=Hh (HKY.out.below b_);have HB:=Hh (HB.out.stay (b_.block _ HB.out.lt));clear b_ c0 c1 c2 c3 c4;obtain⟨c0,c1,c2,c3,c4⟩:=HB.out.cells));go_loopw [19,9,10,11,12] (fun z1 z2 z3 z4 z5 wr=>∃(j:Nat) (v2 v3 v4 v5:Value),z1=.int .i64 j∧z2=v2∧z3=v3∧z4=v4∧z5=v5∧j≤4∧PnI base l n cq Aq gp g wide high R (zfz q u v d M j) wr∧Ky (RowP R high) w wr∧zbo wr w.heap.size x) (fun z1 _ _ _ _ _=>4-(intOf z1).toNat)
  case atStart=>exact⟨0,_,_,_,_,rfl,rfl,rfl,rfl,rfl,by omega,HI.out,HKY.out,HB.out⟩
  case round =>
   obtain⟨j,v2,v3,v4,v5,rfl,rfl,rfl,rfl,rfl,hj,hi,hk,hb⟩:=hrel;clear c0 c1 c2 c3 c4 HI HKY HB;have HI:=Hh hi;have HKY:=Hh hk;have HB:=Hh hb;obtain⟨c0,c1,c2,c3,c4⟩:=hb.cells;obtain⟨p0,p1⟩:=hi.cells;clear hi hk hb;by_cases hlt:j<4
   ·have hidx:=zex x j hlt;have hfk:=zak HF.out hlt;rw[HLV.out] at hfk;obtain⟨y,hy⟩:∃y,y=x.kid j:=⟨_,rfl⟩;rw[←hy] at hidx hfk;have HY:=Hh hy;clear hy;have hkn:=HK.out j hlt;obtain⟨C,hC⟩:∃C,C=kidX u d j%4294967296:=⟨_,rfl⟩;obtain⟨E,hE⟩:∃E,E=kidY v d j%4294967296:=⟨_,rfl⟩;have eC:(U+(j:Int)%2*H)%4294967296=C:=by
     rw[hC,HU.out,HH.out];exact zms u d (by omega) (by omega) (k:=fun i=>i%2) (by show _=((j%2:Nat):Int);omega)
    have eE:(V+(j:Int) / 2*H)%4294967296=E:=by
     rw[hE,HV.out,HH.out];exact zms v d (by omega) (by omega) (k:=fun i=>i / 2) (by show _=((j / 2:Nat):Int);omega)
    have j1:IntKind.i64.wrap ((j:Int)+1)=(j:Int)+1:=IntWalk.i64_in _ (by omega);have HC:=Hh hC;have HE:=Hh hE;clear hC hE;rcases zaA (show(d:Int)+1≠1 by have:=HD.out;omega) hfk with rfl|⟨p,rfl,hp,hpl⟩
    ·have hz:zfz q u v d M (j+1)=zfz q u v d M j:=zhN (ts:=dens l) (v':=(d:Int)+1) HY.out.symm (by rw[zaF (by have:=HD.out;omega)];exact zav l) q u v d M (by rw[HQ.out]);have HZ:=Hh hz;clear hz hkn hfk hidx eC eE;have hidx2:=zex x j hlt;rw[←HY.out] at hidx2;go_wp2_with fail;go_roundw
     case rel=>exact⟨j+1,_,_,_,_,by go_num,rfl,rfl,rfl,rfl,by omega,by rw[HZ.out];exact HI.out,HKY.out,HB.out⟩
     case measure=>simp[intOf];omega
    ·have hpn:p<n:=by rw[←HL.out];exact hp
     obtain⟨bb,off,rfl,hb,hc⟩:=HI.out.ns.at_ (by omega)
     have hcap:=HI.out.ns.cap;rw[HL.out] at hcap;obtain⟨z,hz⟩:∃z,z=at_ l p:=⟨_,rfl⟩
     obtain⟨n0,n1,n2,n3,n4⟩:=hc p hp;have hzl:z.lv=(m:Int)+1:=by have:=HD.out;rw[hz];omega
     have hzw:z.wf:=by rw[hz];exact HI.out.ns.wf hp
     have hzf:fitB l z=true:=by rw[hz];exact zaf hl hp
     have hqj:q j=norm (dens l) z:=by
      rw[HQ.out];show kidT (dens l) ((d:Int)+1) (x.kid j)=_;rw[←HY.out,zaF (by have:=HD.out;omega),show((p:Int)+1).toNat=p+1 by omega,zaw hl hp,←hz]
     rw[hqj] at hkn;rw[←hz] at n0 n1 n2 n3 n4;have t2:(((p:Int)+1)==0)=false:=beq_eq_false_iff_ne.2 (by omega);have t3:decide (x.lv>1)=true:=decide_eq_true (by have:=HLV.out;have:=HD.out;omega);have i1:(p:Int)<(n:Int):=by omega
     have i3:IntKind.i64.wrap ((p:Int)+1-1)=(p:Int):=by rw[show(p:Int)+1-1=(p:Int) by omega];exact IntWalk.i64_in _ (by omega)
     have i7:IntKind.i64.wrap (p:Int)=(p:Int):=IntWalk.i64_in _ (by omega);have HKN:=Hh hkn;have HZL:=Hh hzl;have HZW:=Hh hzw;have HZF:=Hh hzf;have HQJ:=Hh hqj;have HJ:=Hh hlt;clear hc hkn hzl hzw hzf hqj hfk hz hpl;go_wp2_with (go_at_call 149;go_loud (have hr:=ih z (kidX u d j) (kidY v d j) (zfz q u v d M j) _ (by have:=HD.out;omega) HZL.out HZW.out HZF.out HKN.out HI.out;rw[←HC.out,←HE.out] at hr;refine hr.mono ?_;rintro e w2 ⟨rfl,hk2,hp2⟩;have HI2:=Hh (HI.out.ky hk2 hp2);have HK2:=Hh (HKY.out.trans hk2 (fun _ _ h=>h));have HB2:=Hh (HB.out.stay (hk2.block _ HB.out.lt (fun h=>NB.out h)));clear hk2 hp2 hr));go_roundw
     case rel=>exact⟨j+1,_,_,_,_,by go_num,rfl,rfl,rfl,rfl,by have:=HJ.out;omega,by(show PnI _ _ _ _ _ _ _ _ _ _ (zcf (q j) _ _ _) _;rw[HQJ.out];exact HI2.out),HK2.out,HB2.out⟩
     case measure=>have:=HJ.out;simp[intOf];omega
   ·have e:j=4:=by omega
    subst e;go_wp2_with fail;go_end0;exact⟨rfl,HKY.out,HI.out.pic⟩
def strV (r:List UInt8):Value:=.string ⟨r.toArray⟩
def Ts (w:World)(A:Option Addr)(c:Nat)(L:List (List UInt8)):Prop:=(∀r∈L,r.length≤maxLen)∧Rd w A c (L.map strV)
def tat (L:List (List UInt8))(i:Nat):List UInt8:=L[i]?.getD []
theorem Ts.below {w w':World}{A:Option Addr}{c:Nat}{L:List (List UInt8)}(h:Ts w A c L)(hb:Below w.heap.size w w'):Ts w' A c L:=⟨h.1,h.2.below hb⟩
theorem Ts.nil (w:World):Ts w none 0 []:=⟨by simp,Rd.nil w⟩
theorem Ts.cap {w:World}{A:Option Addr}{c:Nat}{L:List (List UInt8)}(h:Ts w A c L):L.length≤c∧c≤9223372036854775807:=by
 have h1:=h.2.1;have h2:=h.2.2.1;simp only[maxLen,List.length_map] at h1 h2;exact⟨h1,by omega⟩
theorem Ts.at_ {w:World}{A:Option Addr}{c:Nat}{L:List (List UInt8)}(h:Ts w A c L)(hn:0<L.length) :
  ∃b off,A=some ⟨b,off,none⟩∧b<w.heap.size∧∀j,j<L.length→w.cell? ⟨b,off+j,none⟩=some (strV (tat L j)):=by
 obtain⟨b,off,e,hb,hc⟩:=h.2.2.2 (by simpa using hn);refine⟨b,off,e,hb,fun j hj=>hc j _ ?_⟩;unfold tat;rw[List.getElem?_map,List.getElem?_eq_getElem hj];rfl
theorem zax (r:List UInt8):(⟨r.toArray⟩:ByteArray).size=r.length:=by simp[ByteArray.size]
theorem zeS {v:Value}(hv:v.cells=#[v])(n:Nat):(madeCells v.cells (n*1)).toList=List.replicate n v:=by
 rw[hv,Nat.mul_one];refine List.ext_getElem? fun j=>?_;by_cases hj:j<n
 ·simp[madeCells,hj,List.getElem?_replicate,Nat.mod_one]
 ·simp[madeCells,hj,List.getElem?_replicate,Nat.mod_one]
end Go.Proofs.YtcippfaljoagaaaGreatDoor
