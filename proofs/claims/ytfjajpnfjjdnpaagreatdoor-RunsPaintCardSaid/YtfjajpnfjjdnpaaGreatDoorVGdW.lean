import Derived.Test.YtfjajpnfjjdnpaaGreatDoorVBxQ
import Derived.Test.YtfjajpnfjjdnpaaGreatDoorVClRow

set_option linter.unusedVariables false
set_option linter.unusedSimpArgs false
set_option maxRecDepth 100000
set_option maxHeartbeats 6400000
namespace Go.Proofs.YtfjajpnfjjdnpaaGreatDoor
open Go.RowKit Num Nds
theorem zrI {m:Nat}{t:Tr}(hw:wfT ((m:Int)+1) t)(h:t≠.e):t.lv=(m:Int)+1:=by
 cases t with
 | e=>exact absurd rfl h
 | s k=>exact absurd hw.1 (by omega)
 | n v a b c d =>
  have hw':wfT (((m+1:Nat)):Int) (.n v a b c d):=hw;obtain⟨m',hm,rfl,-⟩:=wf_n hw';have:m=m':=by omega
  subst this;rfl
theorem BxV.cells {q:List Nd}(hg:zaw q){ok:Bool}{X Y V H:Int}(b:BxV q q.length ok X Y V H) :
  (q=[]∧ok=false∧X=0∧Y=0∧V=0∧H=0)∨(ok=true∧(∀x y,zas (den q q.length) x y≠0→X≤x∧x≤X+V-1∧Y≤y∧y≤Y+H-1) ∧
   (∃x y,zas (den q q.length) x y≠0∧x=X)∧(∃x y,zas (den q q.length) x y≠0∧x=X+V-1)∧(∃x y,zas (den q q.length) x y≠0∧y=Y)∧∃x y,zas (den q q.length) x y≠0∧y=Y+H-1):=by
 rcases b with⟨h0,h1⟩|⟨h0,rfl,h1⟩
 ·exact .inl ⟨List.length_eq_zero_iff.1 h0,h1⟩
 ·refine .inr ⟨rfl,?_⟩;have hlv:=zaq (zaf hg.1 (i:=q.length-1) (by omega));obtain⟨m,hm⟩:∃m:Nat,(at_ q (q.length-1)).lv=(m:Int)+1:=⟨(at_ q (q.length-1)).lv.toNat-1,by omega⟩;have hw:=zcn hg.1 (q.length-1) (by omega);rw[Nat.sub_add_cancel (by omega),hm] at hw;have hne:=(hg.2 (q.length-1) (by omega)).1;rw[Nat.sub_add_cancel (by omega)] at hne;have hn:(den q q.length).lv.toNat=(at_ q (q.length-1)).lv.toNat:=by rw[zrI hw hne,hm]
  obtain⟨t1,t2,t3,t4⟩:=h1.touch hn;exact⟨fun x y h=>h1.cell hn h,t1,t2,t3,t4⟩
theorem zcJ {n:Int}(h : -8≤n∧n<8) : -p2 1330≤n∧n≤p2 1330:=by
 have h1:=zbE (show 3≤1330 by omega);have h2:p2 3=8:=rfl;omega
theorem zaJ {s:Bool}{xs:List Nat}(h:zaE s xs):zbs s xs=true:=by
 unfold zbs;rw[Bool.and_eq_true];constructor
 ·have h1:=h.1;unfold zaG at h1;rw[List.getLast?_eq_getElem?] at h1;unfold zgD;rw[Bool.or_eq_true];rcases Nat.eq_zero_or_pos xs.length with h0|h0
  ·exact .inl (by rw[h0];rfl)
  ·right;rw[bne_iff_ne];rw[List.getElem?_eq_getElem (by omega)] at h1 ⊢;exact fun e=>h1 (by rw[←e];rfl)
 ·cases s
  ·rfl
  ·have:=h.2 rfl;simp;exact List.length_pos_iff.2 this
end Go.Proofs.YtfjajpnfjjdnpaaGreatDoor

namespace Go.Proofs.YtfjajpnfjjdnpaaGreatDoor
open Nds
def zbL (t:Tr)(u v:Int)(M:Int→Int→Int):Int→Int→Int:=fun r c=>if zad t (c-u) (r-v)=0 then M r c else zad t (c-u) (r-v)
theorem zsP (u v:Int)(M:Int→Int→Int):zbL .e u v M=M:=by
 funext r c;unfold zbL;rw[zbn,if_pos rfl]
theorem zqN {k:Int}(hk:k≠0)(u v:Int)(M:Int→Int→Int):zbL (st k) u v M=fun r c=>if r=v∧c=u then k else M r c:=by
 funext r c;unfold zbL st;rw[if_neg hk];unfold zad;by_cases h:r=v∧c=u
 ·rw[if_pos (show c-u=0∧r-v=0 by omega),if_neg hk,if_pos h]
 ·rw[if_neg (show ¬ (c-u=0∧r-v=0) by omega),if_pos rfl,if_neg h]
theorem zqO {m:Nat}{a b c d:Tr}(ha:wfT (m:Int) a)(hb:wfT (m:Int) b)(hc:wfT (m:Int) c)(hd:wfT (m:Int) d)(u v:Int)(M:Int→Int→Int) :
  zbL (mk ((m:Int)+1) a b c d) u v M=zbL d (u+p2 m) (v+p2 m) (zbL c u (v+p2 m) (zbL b (u+p2 m) v (zbL a u v M))):=by
 funext y x;unfold zbL;rw[zdA ha hb hc hd,show x-u-p2 m=x-(u+p2 m) by omega,show y-v-p2 m=y-(v+p2 m) by omega];have ia:=zal a m (x-u) (y-v) ha;have ib:=zal b m (x-(u+p2 m)) (y-v) hb;have ic:=zal c m (x-u) (y-(v+p2 m)) hc;have id:=zal d m (x-(u+p2 m)) (y-(v+p2 m)) hd;revert ia ib ic id;generalize zad a (x-u) (y-v)=ka;generalize zad b (x-(u+p2 m)) (y-v)=kb;generalize zad c (x-u) (y-(v+p2 m))=kc;generalize zad d (x-(u+p2 m)) (y-(v+p2 m))=kd;intro ia ib ic id;by_cases h3:kd=0
 ·by_cases h2:kc=0
  ·by_cases h1:kb=0
   ·subst h1 h2 h3;simp only[Int.add_zero,if_true]
   ·have z0:ka=0:=Classical.byContradiction fun h=>by have:=ia h;have:=ib h1;omega
    subst z0 h2 h3;simp only[Int.add_zero,Int.zero_add,if_true,if_neg h1]
  ·have z0:ka=0:=Classical.byContradiction fun h=>by have:=ia h;have:=ic h2;omega
   have z1:kb=0:=Classical.byContradiction fun h=>by have:=ib h;have:=ic h2;omega
   subst z0 z1 h3;simp only[Int.add_zero,Int.zero_add,if_true,if_neg h2]
 ·have z0:ka=0:=Classical.byContradiction fun h=>by have:=ia h;have:=id h3;omega
  have z1:kb=0:=Classical.byContradiction fun h=>by have:=ib h;have:=id h3;omega
  have z2:kc=0:=Classical.byContradiction fun h=>by have:=ic h;have:=id h3;omega
  subst z0 z1 z2;simp only[Int.zero_add,if_neg h3]
def InP (t:Tr)(u v:Int)(wide high:Nat):Prop:=∀x y,zad t x y≠0→0≤u+x∧u+x<wide∧0≤v+y∧v+y<high
theorem zua {k:Int}(hk:k≠0){u v:Int}{wide high:Nat}(h:InP (st k) u v wide high):0≤u∧u<wide∧0≤v∧v<high:=by
 have:=h 0 0 (by unfold st;rw[if_neg hk];exact hk);omega
theorem zub {m:Nat}{a b c d:Tr}(ha:wfT (m:Int) a)(hb:wfT (m:Int) b)(hc:wfT (m:Int) c)(hd:wfT (m:Int) d){u v:Int}{wide high:Nat}(h:InP (mk ((m:Int)+1) a b c d) u v wide high) :
  InP a u v wide high∧InP b (u+p2 m) v wide high∧InP c u (v+p2 m) wide high∧InP d (u+p2 m) (v+p2 m) wide high:=by
 refine⟨fun x y k=>?_,fun x y k=>?_,fun x y k=>?_,fun x y k=>?_⟩
 ·have i:=zal a m x y ha k;refine h x y ?_;rw[zdA ha hb hc hd,zba hb (by omega),zba hc (by omega),zba hd (by omega),Int.add_zero,Int.add_zero,Int.add_zero];exact k
 ·have i:=zal b m x y hb k;have:=h (x+p2 m) y (by
   rw[zdA ha hb hc hd,zba ha (by omega),zba hc (by omega),zba hd (by omega),Int.add_zero,Int.add_zero,Int.zero_add,show x+p2 m-p2 m=x by omega];exact k)
  omega
 ·have i:=zal c m x y hc k;have:=h x (y+p2 m) (by
   rw[zdA ha hb hc hd,zba ha (by omega),zba hb (by omega),zba hd (by omega),Int.add_zero,Int.add_zero,Int.zero_add,show y+p2 m-p2 m=y by omega];exact k)
  omega
 ·have i:=zal d m x y hd k;have:=h (x+p2 m) (y+p2 m) (by
   rw[zdA ha hb hc hd,zba ha (by omega),zba hb (by omega),zba hc (by omega),Int.add_zero,Int.add_zero,Int.zero_add,show x+p2 m-p2 m=x by omega,show y+p2 m-p2 m=y by omega];exact k)
  omega
theorem low_add (u:Int)(h:Int):(u%4294967296+h%4294967296)%4294967296=(u+h)%4294967296:=by omega
theorem zli {u:Int}(h:0≤u∧u<1000):u%4294967296=u:=by omega
theorem zjQ (t:Tr)(u v r c:Int):zbL t u v (fun _ _=>0) r c=zad t (c-u) (r-v):=by
 unfold zbL;split
 ·rename_i h;rw[h]
 ·rfl
def rowC (M:Int→Int→Int)(X Y:Int)(k wide:Nat):List Cl:=(List.range wide).filterMap fun(i:Nat)=>if M k i=0 then none else some ⟨X+i,Y+k,M k i⟩
def picL (M:Int→Int→Int)(X Y:Int)(wide high:Nat):List Cl:=(List.range high).flatMap fun k=>rowC M X Y k wide
theorem zoC (M:Int→Int→Int)(X Y:Int)(k:Nat):rowC M X Y k 0=[]:=rfl
theorem zed (M:Int→Int→Int)(X Y:Int)(k wide:Nat):rowC M X Y k (wide+1)=rowC M X Y k wide++if M k wide=0 then [] else [⟨X+wide,Y+k,M k wide⟩]:=by
 unfold rowC;rw[List.range_succ,List.filterMap_append];congr 1;by_cases h:M k wide=0
 ·simp[h]
 ·simp[h]
theorem zoD (M:Int→Int→Int)(X Y:Int)(wide:Nat):picL M X Y wide 0=[]:=rfl
theorem zgi (M:Int→Int→Int)(X Y:Int)(wide high:Nat):picL M X Y wide (high+1)=picL M X Y wide high++rowC M X Y high wide:=by
 unfold picL;rw[List.range_succ,List.flatMap_append,List.flatMap_cons,List.flatMap_nil,List.append_nil]
end Go.Proofs.YtfjajpnfjjdnpaaGreatDoor

namespace Go.Proofs.YtfjajpnfjjdnpaaGreatDoor
open Go.RowKit
def rowV (R:Nat→Nat)(wide j k:Nat):Value:=if k<j then .slice (some ⟨R k,0,none⟩) wide wide else .slice none 0 0
def zee (M:Int→Int→Int)(k wide:Nat):List Value:=(List.range wide).map fun(i:Nat)=>.int .u8 (M k i)
structure PicR (tB tR:TypeId)(base g wide high j:Nat)(R:Nat→Nat)(M:Int→Int→Int)(W:World):Prop where
 rows:W.ownsRow base tR 1 (.slice (some ⟨g,0,none⟩) high high) high ((List.range high).map (rowV R wide j))
 row:∀k,k<j→W.ownsRow base tB 1 (.slice (some ⟨R k,0,none⟩) wide wide) wide (zee M k wide)
 inj:∀a b,a<j→b<j→R a=R b→a=b
 off:∀k,k<j→R k≠g
variable {tB tR:TypeId} {base g wide high j:Nat} {R:Nat→Nat} {M:Int→Int→Int} {W:World}
theorem gbX {w w':World}(h:Below w.heap.size w w'):w.grownBy w' none:=⟨h.os,h.tape,h.output,h.size,fun k hk _=>h.block k hk⟩
theorem zhT {k i:Nat}(h:i<wide):(zee M k wide)[i]?=some (.int .u8 (M k i)):=by
 unfold zee;rw[List.getElem?_map,List.getElem?_range h];rfl
theorem PicR.rowAt (h:PicR tB tR base g wide high j R M W){k:Nat}(hk:k<high):W.cell? ⟨g,k,none⟩=some (rowV R wide j k):=by
 rw[h.rows.cellAt k (by omega),List.getElem?_map,List.getElem?_range hk];rfl
theorem PicR.at_ (h:PicR tB tR base g wide high j R M W){k:Nat}(hk:k<high)(hj:k<j):W.cell? ⟨g,k,none⟩=some (.slice (some ⟨R k,0,none⟩) wide wide):=by
 rw[h.rowAt hk];unfold rowV;rw[if_pos hj]
theorem PicR.get (h:PicR tB tR base g wide high j R M W){k i:Nat}(hk:k<j)(hi:i<wide):W.cell? ⟨R k,i,none⟩=some (.int .u8 (M k i)):=by
 rw[(h.row k hk).cellAt i (by omega),zhT hi]
theorem PicR.free (h:PicR tB tR base g wide high j R M W){k:Nat}(hk:k<j)(i:Nat):W.frozen? ⟨R k,i,none⟩=false:=(h.row k hk).frozenAt i
theorem PicR.freeG (h:PicR tB tR base g wide high j R M W)(i:Nat):W.frozen? ⟨g,i,none⟩=false:=h.rows.frozenAt i
theorem PicR.ltG (h:PicR tB tR base g wide high j R M W):base≤g∧g<W.heap.size:=h.rows.lt g rfl
theorem PicR.ltR (h:PicR tB tR base g wide high j R M W){k:Nat}(hk:k<j):base≤R k∧R k<W.heap.size:=(h.row k hk).lt (R k) rfl
theorem PicR.next (h:PicR tB tR base g wide high j R M W){W':World}(b:Below W.heap.size W W'):PicR tB tR base g wide high j R M W' :=
 ⟨h.rows.kept (gbX b) (.inr (by simp[Value.ownBlock])),fun k hk=>(h.row k hk).kept (gbX b) (.inr (by simp[Value.ownBlock])),h.inj,h.off⟩
theorem PicR.other (h:PicR tB tR base g wide high j R M W){p:Addr}(hg:p.block≠g)(hr:∀k,k<j→p.block≠R k)(u:Value):PicR tB tR base g wide high j R M (W.setCell p u):=by
 have key:W.grownBy (W.setCell p u) (some p.block):=⟨rfl,rfl,rfl,by simp[World.setCell],fun k _ hk=>heap_setCell_other W p k u (fun e=>hk (by simp[e]))⟩;exact⟨h.rows.kept key (.inr (by simpa [Value.ownBlock] using fun e=>hg e.symm)),fun k hk=>(h.row k hk).kept key (.inr (by simpa [Value.ownBlock] using fun e=>hr k hk e.symm)),h.inj,h.off⟩
theorem PicR.set (h:PicR tB tR base g wide high j R M W){k i:Nat}(hk:k<j)(hi:i<wide)(s:Int) :
  PicR tB tR base g wide high j R (fun r c=>if r=k∧c=i then s else M r c) (W.setCell ⟨R k,i,none⟩ (.int .u8 s)):=by
 obtain⟨h1,h2⟩:=(h.row k hk).stored i (.int .u8 s);refine⟨h.rows.kept h2 (.inr (by simpa [Value.ownBlock] using fun e=>h.off k hk e.symm)),fun a ha=>?_,h.inj,h.off⟩;by_cases e:a=k
 ·subst e;have e2:zee (fun r c=>if r=(a:Int)∧c=(i:Int) then s else M r c) a wide=(zee M a wide).set i (.int .u8 s):=by
   refine List.ext_getElem? fun t=>?_;by_cases ht:t<wide
   ·rw[zhT ht,List.getElem?_set];by_cases hit:i=t
    ·subst hit;rw[if_pos rfl,if_pos (show i<(zee M a wide).length by unfold zee;rw[List.length_map,List.length_range];exact ht)];simp
    ·rw[if_neg hit,zhT ht,if_neg (by omega)]
   ·rw[List.getElem?_eq_none (by simp[zee];omega),List.getElem?_eq_none (by simp[zee];omega)]
  rw[e2];exact h1
 ·have e2:zee (fun r c=>if r=(k:Int)∧c=(i:Int) then s else M r c) a wide=zee M a wide:=by
   unfold zee;refine List.map_congr_left fun t _=>?_;show Value.int .u8 (if (a:Int)=k∧(t:Int)=i then s else M a t)=_;rw[if_neg (by omega)]
  rw[e2];exact(h.row a ha).kept h2 (.inr (by simpa [Value.ownBlock] using fun e3=>e (h.inj a k ha hk e3)))
theorem PicR.more (h:PicR tB tR base g wide high j R (fun _ _=>0) W)(hj:j<high){W':World}{r:Nat}(b:Below W.heap.size W W')(hr:W.heap.size≤r)
  (ho:W'.ownsRow base tB 1 (.slice (some ⟨r,0,none⟩) wide wide) wide (List.replicate wide (.int .u8 0))) :
  PicR tB tR base g wide high (j+1) (fun k=>if k=j then r else R k) (fun _ _=>0) (W'.setCell ⟨g,j,none⟩ (.slice (some ⟨r,0,none⟩) wide wide)):=by
 have h':=h.next b;obtain⟨h1,h2⟩:=h'.rows.stored j (.slice (some ⟨r,0,none⟩) wide wide);have hg:=h.ltG;refine⟨?_,fun k hk=>?_,fun a b2 ha hb he=>?_,fun k hk=>?_⟩
 ·have e:(List.range high).map (rowV (fun k=>if k=j then r else R k) wide (j+1))=((List.range high).map (rowV R wide j)).set j (.slice (some ⟨r,0,none⟩) wide wide):=by
   refine List.ext_getElem? fun t=>?_;by_cases ht:t<high
   ·rw[List.getElem?_map,List.getElem?_range ht,List.getElem?_set];by_cases hjt:j=t
    ·subst hjt;rw[if_pos rfl,if_pos (by simpa using ht)];show some (rowV _ wide (j+1) j)=_;unfold rowV;rw[if_pos (by omega)];simp
    ·rw[if_neg hjt,List.getElem?_map,List.getElem?_range ht];show some (rowV _ wide (j+1) t)=some (rowV R wide j t);unfold rowV;by_cases hlt:t<j
     ·rw[if_pos (by omega),if_pos hlt];simp[show ¬ t=j by omega]
     ·rw[if_neg (by omega),if_neg hlt]
   ·rw[List.getElem?_eq_none (by simpa using ht),List.getElem?_eq_none (by simpa using ht)]
  rw[e];exact h1
 ·by_cases e:k=j
  ·subst e;simp only[if_true];have e2:zee (fun _ _=>0) k wide=List.replicate wide (.int .u8 0):=by
    unfold zee;refine List.ext_getElem? fun t=>?_;by_cases ht:t<wide
    ·rw[List.getElem?_map,List.getElem?_range ht,List.getElem?_replicate,if_pos ht];rfl
    ·rw[List.getElem?_eq_none (by simpa using ht),List.getElem?_eq_none (by simpa using ht)]
   rw[e2];exact ho.kept h2 (.inr (by simp[Value.ownBlock];omega))
  ·simp only[if_neg e];exact(h'.row k (by omega)).kept h2 (.inr (by have:=h.off k (by omega);simpa [Value.ownBlock] using this))
 ·by_cases e1:a=j
  ·by_cases e2:b2=j
   ·omega
   ·simp only[if_pos e1,if_neg e2] at he;have:=h.ltR (k:=b2) (by omega);omega
  ·by_cases e2:b2=j
   ·simp only[if_neg e1,if_pos e2] at he;have:=h.ltR (k:=a) (by omega);omega
   ·simp only[if_neg e1,if_neg e2] at he;exact h.inj a b2 (by omega) (by omega) he
 ·by_cases e:k=j
  ·simp only[if_pos e];omega
  ·simp only[if_neg e];exact h.off k (by omega)
end Go.Proofs.YtfjajpnfjjdnpaaGreatDoor

namespace Go.Proofs.YtfjajpnfjjdnpaaGreatDoor
def strM (M:Int→Int→Int)(k wide:Nat):List UInt8:=(List.range wide).map fun(i:Nat)=>UInt8.ofNat (M k i).toNat
def zeZ (M:Int→Int→Int)(wide high:Nat):List (List UInt8):=(List.range high).map fun k=>strM M k wide
def picS (rows:List (List UInt8)):Int→Int→Int:=fun r c=>(((rows.getD r.toNat []).getD c.toNat 0).toNat:Int)
theorem zef (M:Int→Int→Int)(k wide:Nat):(strM M k wide).length=wide:=by
 unfold strM;rw[List.length_map,List.length_range]
theorem ziJ (M:Int→Int→Int)(wide high:Nat):(zeZ M wide high).length=high:=by
 unfold zeZ;rw[List.length_map,List.length_range]
theorem zoE {z:Int}(h:0≤z∧z≤255):((UInt8.ofNat z.toNat).toNat:Int)=z:=by
 rw[UInt8.toNat_ofNat'];omega
theorem zsQ (M:Int→Int→Int){k wide i:Nat}(hi:i<wide):(strM M k wide)[i]?=some (UInt8.ofNat (M k i).toNat):=by
 unfold strM;rw[List.getElem?_map,List.getElem?_range hi];rfl
theorem zsR {rows:List (List UInt8)}{k i:Nat}{r:List UInt8}{b:UInt8}(hk:rows[k]?=some r)(hi:r[i]?=some b):picS rows k i=(b.toNat:Int):=by
 unfold picS;simp[List.getD_eq_getElem?_getD,hk,hi]
end Go.Proofs.YtfjajpnfjjdnpaaGreatDoor

namespace Go.Proofs.YtfjajpnfjjdnpaaGreatDoor
open Nds
def picM (t:Tr)(X Y:Int):Int→Int→Int:=fun r c=>zas t (X+c) (Y+r)
theorem zms (t:Tr)(X Y:Int):zbL t (-p2 (t.lv.toNat-1)-X) (-p2 (t.lv.toNat-1)-Y) (fun _ _=>0)=picM t X Y:=by
 funext r c;rw[zjQ];unfold picM zas;rw[show c-(-p2 (t.lv.toNat-1)-X)=X+c+p2 (t.lv.toNat-1) by omega,show r-(-p2 (t.lv.toNat-1)-Y)=Y+r+p2 (t.lv.toNat-1) by omega]
theorem BoxT.inP {t:Tr}{n:Nat}{X Y:Int}{wide high:Nat}(a:BoxT t n X Y wide high)(hn:t.lv.toNat=n):InP t (-p2 (n-1)-X) (-p2 (n-1)-Y) wide high:=fun x y h=>by
 have:=a.cell hn (X:=x-p2 (n-1)) (Y:=y-p2 (n-1)) (by
  unfold zas;rw[hn,show x-p2 (n-1)+p2 (n-1)=x by omega,show y-p2 (n-1)+p2 (n-1)=y by omega];exact h)
 omega
end Go.Proofs.YtfjajpnfjjdnpaaGreatDoor

namespace Go.Proofs.YtfjajpnfjjdnpaaGreatDoor
open Nds Num
def kidX (u:Int)(m j:Nat):Int:=u+((j%2:Nat):Int)*p2 m
def kidY (v:Int)(m j:Nat):Int:=v+((j / 2:Nat):Int)*p2 m
def zeH (q:Nat→Tr)(u v:Int)(m:Nat)(M:Int→Int→Int):Nat→Int→Int→Int
 | 0=>M
 | j+1=>zbL (q j) (kidX u m j) (kidY v m j) (zeH q u v m M j)
theorem zgT {l:List Nd}(hl:zac l=true){x:Nd}{m:Nat}(hx:fitB l x=true)(hv:x.lv=(m:Int)+1)(u v:Int)(M:Int→Int→Int) :
  zbL (norm (dens l) x) u v M=zeH (fun i=>kidT (dens l) ((m:Int)+1) (x.kid i)) u v m M 4:=by
 have hw:∀i,i<4→wfT (m:Int) (kidT (dens l) ((m:Int)+1) (x.kid i)):=fun i hi=>zrF hl (by have:=zai hx hi;rwa [hv] at this);rw[zkV hv,zqO (hw 0 (by omega)) (hw 1 (by omega)) (hw 2 (by omega)) (hw 3 (by omega))];have e0:∀u:Int,u+((0:Nat):Int)*p2 m=u:=fun u=>by omega
 have e1:∀u:Int,u+((1:Nat):Int)*p2 m=u+p2 m:=fun u=>by omega
 show _=zbL _ (u+((1:Nat):Int)*p2 m) (v+((1:Nat):Int)*p2 m) (zbL _ (u+((0:Nat):Int)*p2 m) (v+((1:Nat):Int)*p2 m) (zbL _ (u+((1:Nat):Int)*p2 m) (v+((0:Nat):Int)*p2 m) (zbL _ (u+((0:Nat):Int)*p2 m) (v+((0:Nat):Int)*p2 m) M)));simp only[e0,e1]
theorem zoF {l:List Nd}(hl:zac l=true){x:Nd}{m:Nat}(hx:fitB l x=true)(hv:x.lv=(m:Int)+1){u v:Int}{wide high:Nat}(h:InP (norm (dens l) x) u v wide high){j:Nat}(hj:j<4) :
  InP (kidT (dens l) ((m:Int)+1) (x.kid j)) (kidX u m j) (kidY v m j) wide high:=by
 have hw:∀i,i<4→wfT (m:Int) (kidT (dens l) ((m:Int)+1) (x.kid i)):=fun i hi=>zrF hl (by have:=zai hx hi;rwa [hv] at this);rw[zkV hv] at h;obtain⟨h0,h1,h2,h3⟩:=zub (hw 0 (by omega)) (hw 1 (by omega)) (hw 2 (by omega)) (hw 3 (by omega)) h;have e0:∀u:Int,u+((0:Nat):Int)*p2 m=u:=fun u=>by omega
 have e1:∀u:Int,u+((1:Nat):Int)*p2 m=u+p2 m:=fun u=>by omega
 match j,hj with
 | 0,_=>show InP _ (u+((0:Nat):Int)*p2 m) (v+((0:Nat):Int)*p2 m) _ _;rw[e0,e0];exact h0
 | 1,_=>show InP _ (u+((1:Nat):Int)*p2 m) (v+((0:Nat):Int)*p2 m) _ _;rw[e1,e0];exact h1
 | 2,_=>show InP _ (u+((0:Nat):Int)*p2 m) (v+((1:Nat):Int)*p2 m) _ _;rw[e0,e1];exact h2
 | 3,_=>show InP _ (u+((1:Nat):Int)*p2 m) (v+((1:Nat):Int)*p2 m) _ _;rw[e1,e1];exact h3
theorem zgU {ts:List Tr}{k v':Int}(hk:k=0)(hz:kidT ts v' 0=.e)(q:Nat→Tr)(u v:Int)(m:Nat)(M:Int→Int→Int){j:Nat}(hq:q j=kidT ts v' k):zeH q u v m M (j+1)=zeH q u v m M j:=by
 show zbL (q j) _ _ _=_;rw[hq,hk,hz,zsP]
theorem zsS (u:Int)(m:Nat){b:Nat}(hb:b<2):(u%4294967296+((b:Int)*(p2 m%4294967296))%4294967296)%4294967296=(u+(b:Int)*p2 m)%4294967296:=by
 match b,hb with
 | 0,_=>show(u%4294967296+((0:Int)*_)%4294967296)%4294967296=(u+(0:Int)*_)%4294967296;omega
 | 1,_=>show(u%4294967296+((1:Int)*_)%4294967296)%4294967296=(u+(1:Int)*_)%4294967296;omega
theorem zsT {x:Nat}{r:List Nat}(hx:x<4294967296):ival false (x :: r)%4294967296=x∧ival true (x :: r)%4294967296=(-(x:Int))%4294967296:=by
 have e:val (x :: r)=x+4294967296*val r:=rfl;unfold ival;simp only[Bool.false_eq_true,if_false,if_true,e];omega
theorem zlj (n:Nat)(X:Int):((-(p2 n%4294967296))%4294967296-X%4294967296)%4294967296=(-p2 n-X)%4294967296:=by omega
end Go.Proofs.YtfjajpnfjjdnpaaGreatDoor

namespace Go.Proofs.YtfjajpnfjjdnpaaGreatDoor
open Nds
theorem zqP {q:List Nd}(hq:zac q=true)(X Y r c:Int):0≤picM (den q q.length) X Y r c∧picM (den q q.length) X Y r c≤255:=znT hq (X+c) (Y+r)
theorem zhU (M:Int→Int→Int)(X Y:Int)(k:Nat):∀wide,(rowC M X Y k wide).length+((List.range wide).filter fun(i:Nat)=>M k i==0).length=wide
 | 0=>rfl
 | wide+1=>by
  have ih:=zhU M X Y k wide;rw[zed,List.range_succ,List.filter_append,List.length_append,List.length_append];by_cases h:M k wide=0
  ·rw[if_pos h];simp[h];omega
  ·rw[if_neg h];simp[h];omega
end Go.Proofs.YtfjajpnfjjdnpaaGreatDoor

namespace Go.Proofs.YtfjajpnfjjdnpaaGreatDoor
open Go.RowKit Num
theorem zoG (k:Nat):(2:Int)^(min k 32)%4294967296=2^k%4294967296:=by
 by_cases h:k≤32
 ·rw[Nat.min_eq_left h]
 ·obtain⟨d,rfl⟩:∃d,k=32+d:=⟨k-32,by omega⟩;rw[Nat.min_eq_right (by omega),Int.pow_add,show(2:Int)^32=4294967296 by decide,Int.mul_emod_right];rfl
theorem zhV (k:Nat)(w:World)(hk:k≤1400) :
  Calls Tryz.prog 164 #[.int .i64 (k:Int)] w fun e w'=>e=.returned (.int .u32 ((2:Int)^k%4294967296))∧Below w.heap.size w w':=by
 go_enter Tryz.func164,Tryz.ntmps164;go_wp2_with fail;rw[zoG];go_ret;exact⟨rfl,Below.refl _ w⟩
theorem zoH (s:Bool)(A:Option Addr)(n c:Nat)(xs:List Nat)(w:World)(h:Us w A c xs)(hn:xs.length=n) :
  Calls Tryz.prog 166 #[.agg #[.bool s,.slice A n c]] w fun e w'=>e=.returned (.int .u32 ((if s then -((xs.getD 0 0:Nat):Int) else ((xs.getD 0 0:Nat):Int))%4294967296))∧Below w.heap.size w w':=by
 cases xs with
 | nil =>
  obtain rfl:0=n:=hn;cases s with
  | false =>
   go_enter Tryz.func166,Tryz.ntmps166;go_wp2_with fail;go_ret;exact⟨rfl,(Below.refl _ w).alloc (Nat.le_refl _) _⟩
  | true =>
   go_enter Tryz.func166,Tryz.ntmps166;go_wp2_with fail;go_ret;exact⟨rfl,(Below.refl _ w).alloc (Nat.le_refl _) _⟩
 | cons x r =>
  obtain⟨b,off,rfl,hlt,hc⟩:=h.at_ (by simp)
  have hg:((n:Int)==0)=false:=by simp at hn;simp;omega
  have hp:0<n:=by simp at hn;omega
  have h0:w.cell? ⟨b,off,none⟩=some (.int .u32 (x:Int)):=hc 0 (by simp);have hx:(x:Int)%4294967296=x:=by have:=h.1 x (by simp);omega
  clear h hc;cases s with
  | false =>
   go_enter Tryz.func166,Tryz.ntmps166;go_wp2_with fail;go_ret;exact⟨rfl,(Below.refl _ w).alloc (Nat.le_refl _) _⟩
  | true =>
   go_enter Tryz.func166,Tryz.ntmps166;go_wp2_with fail;go_ret;exact⟨rfl,(Below.refl _ w).alloc (Nat.le_refl _) _⟩
end Go.Proofs.YtfjajpnfjjdnpaaGreatDoor
