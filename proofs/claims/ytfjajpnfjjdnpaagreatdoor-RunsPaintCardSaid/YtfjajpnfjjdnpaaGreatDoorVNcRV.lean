import Derived.Laws.AppendOwnNone
import Derived.Test.YtfjajpnfjjdnpaaGreatDoorVClM

set_option linter.unusedVariables false
set_option linter.unusedSimpArgs false
set_option maxRecDepth 100000
set_option maxHeartbeats 6400000
namespace Go.Proofs.YtfjajpnfjjdnpaaGreatDoor
theorem zhC {P:Program}{md:Region.Mode}{ops:Array Oper}{Q:Exit→Act→World→Prop}{S:World→Prop}{T:Type}(rank:T→Nat)(mask:T→Array Bool)(left:T→Nat)(inv:T→Act→World→Prop)
  (h:∀s,(∀s',rank s'<rank s→∀a w,inv s' a w→wpAnyH P md ops Q S (left s') (mask s') a w)→∀a w,inv s a w→wpAnyH P md ops Q S (left s) (mask s) a w) :
  ∀(s:T) (a:Act) (w:World),inv s a w→wpAnyH P md ops Q S (left s) (mask s) a w:=by
 have key:∀(n:Nat) (s:T),rank s≤n→∀(a:Act) (w:World),inv s a w→wpAnyH P md ops Q S (left s) (mask s) a w:=by
  intro n
  induction n with
  | zero=>exact fun s hs=>h s (fun s' hs'=>by omega)
  | succ n ih=>exact fun s hs=>h s (fun s' hs'=>ih s' (by omega))
 exact fun s=>key (rank s) s (Nat.le_refl _)
theorem zgx {P:Program}{md:Region.Mode}{ops:Array Oper}{Q:Exit→Act→World→Prop}{S:World→Prop}{T:Type}(rank:T→Nat)(mask:T→Array Bool)(left:T→Nat)(inv:T→Act→World→Prop)
  (h:∀s,(∀s' k m,rank s'<rank s→k=left s'→m=mask s'→∀a w,inv s' a w→wpAnyH P md ops Q S k m a w)→∀a w,inv s a w→wpAnyH P md ops Q S (left s) (mask s) a w) :
  ∀(s:T) (k:Nat) (m:Array Bool),k=left s→m=mask s→∀(a:Act) (w:World),inv s a w→wpAnyH P md ops Q S k m a w:=by
 intro s k m hk hm a w hi;subst hk hm;exact zhC rank mask left inv (fun s ih=>h s (fun s' k m hr hk hm a w hi=>by subst hk hm;exact ih s' hr a w hi)) s a w hi
end Go.Proofs.YtfjajpnfjjdnpaaGreatDoor

namespace Go.Proofs.YtfjajpnfjjdnpaaGreatDoor
open Go.RowKit Nds
theorem zhD (W:World)(g:Nat)(x:Nd)(hx:x.wf)(hg:W.heap.size=g):Ns (W.alloc (.cells #[.int .i64 x.lv,.int .i64 x.a,.int .i64 x.b,.int .i64 x.c,.int .i64 x.d] 70)) (some ⟨g,0,none⟩) 1 [x]:=by
 subst hg;refine⟨by simpa using hx,by simp,by simp[maxLen],fun _=>⟨_,0,rfl,by simp,fun i hi=>?_⟩⟩;have h0:i=0:=by simpa using hi
 subst h0;exact NdAt.new W x _
theorem Tryz.infoN:(Tryz.prog.info? 70).map (fun i=>(i.zero,i.size,i.bytes))=some (some (ndv nd0),5,40):=by kernel_rfl
def ndc (x:Nd):List Value:=[.int .i64 x.lv,.int .i64 x.a,.int .i64 x.b,.int .i64 x.c,.int .i64 x.d]
def ndcs (l:List Nd):List Value:=l.flatMap ndc
theorem zkO (l:List Nd):(ndcs l).length=l.length*5:=by
 unfold ndcs
 induction l with
 | nil=>rfl
 | cons x l ih =>
  rw[List.flatMap_cons,List.length_append,ih,List.length_cons];show 5+_=_;omega
theorem zqo (l m:List Nd):ndcs (l++m)=ndcs l++ndcs m:=by
 unfold ndcs;rw[List.flatMap_append]
theorem zjA:∀(l:List Nd) (i j:Nat),i<l.length→j<5→(ndcs l)[i*5+j]?=(ndc (at_ l i))[j]?
 | [],i,_,hi,_=>by simp at hi
 | x :: l,0,j,_,hj=>by
  show(ndc x++ndcs l)[0*5+j]?=_;rw[List.getElem?_append_left (by show _<5;omega),show 0*5+j=j by omega];rfl
 | x :: l,i+1,j,hi,hj=>by
  show(ndc x++ndcs l)[(i+1)*5+j]?=_;rw[List.getElem?_append_right (by show 5≤_;omega),show(i+1)*5+j-(ndc x).length=i*5+j by show _-5=_;omega,zjA l i j (by simpa using hi) hj];rfl
theorem zqp (l:List Nd):∀u∈ndcs l,u.oneCell'=true:=fun u hu=>by
 obtain⟨x,_,hx⟩:=List.mem_flatMap.1 hu;simp only[ndc,List.mem_cons,List.not_mem_nil,or_false] at hx;rcases hx with rfl|rfl|rfl|rfl|rfl <;> rfl
theorem Ns.cells {w:World}{A:Option Addr}{c:Nat}{l:List Nd}(h:Ns w A c l){ad:Addr}(e:A=some ad):∀j u,(ndcs l)[j]?=some u→w.cell? (ad.add j)=some u:=by
 intro j u hu;have hj:=(List.getElem?_eq_some_iff.1 hu).1;rw[zkO] at hj;obtain⟨b,off,e2,_,hc⟩:=h.at_ (by omega)
 rw[e] at e2;cases e2;have hd:=hc (j / 5) (by omega);have hs:j=j / 5*5+j%5:=by omega
 rw[hs,zjA l (j / 5) (j%5) (by omega) (by omega)] at hu;obtain⟨h1,h2,h3,h4,h5⟩:=hd;have hlt:j%5<5:=Nat.mod_lt _ (by omega);have hadd:(⟨b,off,none⟩:Addr).add j=⟨b,off+j,none⟩:=by simp[Addr.add]
 rw[hadd];generalize hq:j / 5=q at *;generalize hr:j%5=r at *
 match r,hlt with
 | 0,_=>rw[show off+j=off+q*5 by omega,h1];exact hu
 | 1,_=>rw[show off+j=off+q*5+1 by omega,h2];exact hu
 | 2,_=>rw[show off+j=off+q*5+2 by omega,h3];exact hu
 | 3,_=>rw[show off+j=off+q*5+3 by omega,h4];exact hu
 | 4,_=>rw[show off+j=off+q*5+4 by omega,h5];exact hu
def OwnN (w:World)(base:Nat)(v:Value)(l:List Nd):Prop:=(∀x∈l,x.wf)∧w.ownsRow base 70 5 v l.length (ndcs l)
theorem OwnN.shape {w:World}{base:Nat}{v:Value}{l:List Nd}(h:OwnN w base v l):∃A c,v=.slice A l.length c∧Ns w A c l∧((A=none→c=0)∧∀a,A=some a→base≤a.block):=by
 rcases h.2.2 with⟨h',hn⟩|⟨g,cap,cur,h',hb,hg,hnc,hcm,hcs,htake⟩
 ·exact⟨none,0,by rw[h',hn],⟨h.1,by omega,by simp[maxLen],fun h=>by omega⟩,(fun _=>rfl),(fun a e=>by cases e)⟩
 ·refine⟨some ⟨g,0,none⟩,cap,h',⟨h.1,hnc,hcm,fun hn=>⟨g,0,rfl,?_,fun i hi=>?_⟩⟩,(fun e=>by cases e),(fun a e=>by cases e;exact hb)⟩
  ·rcases Nat.lt_or_ge g w.heap.size with hlt|hge
   ·exact hlt
   ·rw[Array.getElem?_eq_none hge] at hg;cases hg
  ·have hcell:∀j,j<5→w.cell? ⟨g,i*5+j,none⟩=(ndc (at_ l i))[j]?:=by
    intro j hj;have hlt:i*5+j<l.length*5:=by omega
    rw[cell_of_row w g (i*5+j) cur _ (0,0) hg,←zjA l i j hi hj,←htake,List.getElem?_take,if_pos hlt];simp
   rw[Nat.zero_add];exact⟨hcell 0 (by omega),hcell 1 (by omega),hcell 2 (by omega),hcell 3 (by omega),hcell 4 (by omega)⟩
theorem OwnN.start (w:World):OwnN (w.alloc (.cells #[] 70)) w.heap.size (.slice (some ⟨w.heap.size,0,none⟩) 0 0) [] :=
 ⟨by simp,World.ownsRow_made w #[] 0 (Nat.le_refl _) (by simp[maxLen]) rfl⟩
theorem zeX (w:World)(base:Nat)(v:Value)(xs ys:List Nd)(ty:TypeId)(A:Option Addr)(m c:Nat)(how:OwnN w base v xs)(hN:Ns w A c ys)(hm:ys.length=m)(hA:A=none→c=0)(hs:xs.length+m≤1000000)(hb:base≤w.heap.size) :
  ∃v' w',(Builtin.append_ #[26,26] ty #[v,.slice A m c]).run Tryz.prog w=.ok v' w'∧OwnN w' base v' (xs++ys)∧w.grownBy w' v.ownBlock∧(v'.ownBlock=v.ownBlock∨v'.ownBlock=some w.heap.size):=by
 obtain⟨i0,hi,hz0,hz1,hz2⟩:=info_parts Tryz.infoN;have hwf:∀x∈xs++ys,x.wf:=fun x hx=>by
  rcases List.mem_append.1 hx with h|h
  ·exact how.1 x h
  ·exact hN.1 x h
 cases A with
 | none =>
  have hc:=hA rfl;have hy:ys=[]:=by
   rcases Nat.eq_zero_or_pos ys.length with h|h
   ·exact List.eq_nil_of_length_eq_zero h
   ·obtain⟨b,off,e,_⟩:=hN.at_ h
    cases e
  subst hy;subst hc;subst hm;refine⟨v,w,run_append_owned_none (P:=Tryz.prog) (w:=w) base _ ty 70 i0 5 Tryz.underlying26 hi v _ _ how.2,?_,⟨rfl,rfl,rfl,Nat.le_refl _,fun _ _ _=>rfl⟩,.inl rfl⟩;rw[List.append_nil];exact how
 | some ad =>
  obtain⟨v',w',hrun,h2,h3,_,h5⟩:=run_append_own_at (P:=Tryz.prog) w base 26 ty 70 i0 (ndv nd0) 5 40 Tryz.underlying26 hi hz0 hz1 hz2 rfl (by omega) v xs.length (ndcs xs) how.2 ad m c (ndcs ys) (by rw[zkO,hm]) (hN.cells rfl) (zqp ys) (by simp only[maxLen];omega) (by omega) hb;refine⟨v',w',hrun,⟨hwf,?_⟩,h3,h5⟩;rw[zqo,List.length_append,hm];exact h2
theorem zap (w:World){ops:Array Oper}{rest:List Oper}{o:Oper}{a:Act}{Q:Exit→Act→World→Prop}(hg:o.guard=none)(s x:Operand)
  (hop:o.op=Op.call { callee:=Callee.builtin Builtin.append,args:=#[s,x],argTypes:=#[26,26] }) (base:Nat) (v:Value) (xs ys:List Nd) (A:Option Addr) (m c:Nat)
  (hs:a.eval s=v) (hx:a.eval x=.slice A m c) (how:OwnN w base v xs) (hN:Ns w A c ys) (hm:ys.length=m) (hA:A=none→c=0) (hsz:xs.length+m≤1000000) (hb:base≤w.heap.size)
  (hK:∀v' w',OwnN w' base v' (xs++ys)→w.grownBy w' v.ownBlock→(v'.ownBlock=v.ownBlock∨v'.ownBlock=some w.heap.size)→wpList Tryz.prog ops Q rest (a.put o.dst v') w') :
  wpList Tryz.prog ops Q (o :: rest) a w:=by
 refine wpList_plain hg fun K hK'=>?_;obtain⟨v',w',hrun,h1,h2,h3⟩:=zeX w base v xs ys o.type A m c how hN hm hA hsz hb;unfold Oper.wp execOp;simp only[hop,resolve,invoke,builtin,Sem.run_bind,Sem.run_pure,Result.andThen_ok,List.map_toArray,List.map_cons,List.map_nil,hs,hx,hrun];exact hK' _ _ (hK v' w' h1 h2 h3)
theorem Ns.gbr {w w':World}{A:Option Addr}{c:Nat}{l:List Nd}{row:Option Nat}(h:Ns w A c l)(hg:w.grownBy w' row)(hA:∀a,A=some a→some a.block≠row):Ns w' A c l :=
 ⟨h.1,h.2.1,h.2.2.1,fun hn=>by
  obtain⟨b,off,e,hlt,hc⟩:=h.2.2.2 hn;exact⟨b,off,e,Nat.lt_of_lt_of_le hlt hg.size,fun i hi=>(hc i hi).below (hg.block b hlt (hA _ e))⟩⟩
theorem OwnN.gbr {w w':World}{base:Nat}{v:Value}{l:List Nd}{row:Option Nat}(h:OwnN w base v l)(hg:w.grownBy w' row)(hv:v.ownBlock=none∨v.ownBlock≠row):OwnN w' base v l:=⟨h.1,h.2.kept hg hv⟩
theorem OwnN.alloc {w:World}{base:Nat}{v:Value}{l:List Nd}(h:OwnN w base v l)(o:Obj):OwnN (w.alloc o) base v l:=⟨h.1,h.2.alloc o⟩
theorem OwnN.lt {w:World}{base:Nat}{v:Value}{l:List Nd}(h:OwnN w base v l):∀k,v.ownBlock=some k→base≤k∧k<w.heap.size:=h.2.lt
structure Ky (P:Nat→Prop)(w w':World):Prop where
 os:w'.os=w.os
 tape:w'.tape=w.tape
 output:w'.output=w.output
 size:w.heap.size≤w'.heap.size
 block:∀k,k<w.heap.size→¬ P k→w'.heap[k]?=w.heap[k]?
theorem Ky.refl (P:Nat→Prop)(w:World):Ky P w w:=⟨rfl,rfl,rfl,Nat.le_refl _,fun _ _ _=>rfl⟩
theorem Ky.trans {P Q:Nat→Prop}{a b c:World}(h:Ky P a b)(k:Ky Q b c)(hQ:∀i,i<a.heap.size→Q i→P i):Ky P a c :=
 ⟨k.os.trans h.os,k.tape.trans h.tape,k.output.trans h.output,Nat.le_trans h.size k.size,fun i hi hn=>(k.block i (Nat.lt_of_lt_of_le hi h.size) (fun hq=>hn (hQ i hi hq))).trans (h.block i hi hn)⟩
theorem Ky.gb {P:Nat→Prop}{a b c:World}{r:Option Nat}(h:Ky P a b)(k:b.grownBy c r)(hr:∀i,i<a.heap.size→r=some i→P i):Ky P a c :=
 ⟨k.os.trans h.os,k.tape.trans h.tape,k.output.trans h.output,Nat.le_trans h.size k.size,fun i hi hn=>(k.block i (Nat.lt_of_lt_of_le hi h.size) (fun hq=>hn (hr i hi hq.symm))).trans (h.block i hi hn)⟩
theorem Ky.alloc {P:Nat→Prop}{a b:World}(h:Ky P a b)(o:Obj):Ky P a (b.alloc o):=h.gb (World.grownBy_alloc b o none) (fun _ _ e=>by cases e)
theorem Ky.below {P:Nat→Prop}{a b c:World}(h:Ky P a b)(k:Below b.heap.size b c):Ky P a c :=
 ⟨k.os.trans h.os,k.tape.trans h.tape,k.output.trans h.output,Nat.le_trans h.size k.size,fun i hi hn=>(k.block i (Nat.lt_of_lt_of_le hi h.size)).trans (h.block i hi hn)⟩
theorem Ky.set {P:Nat→Prop}{a b:World}(h:Ky P a b)(p:Addr)(hp:p.block<a.heap.size→P p.block)(u:Value):Ky P a (b.setCell p u) :=
 ⟨h.os,h.tape,h.output,by simpa [World.setCell] using h.size,fun i hi hn=>(Below.heap_setCell _ _ _ _ (fun e=>hn (by subst e;exact hp hi))).trans (h.block i hi hn)⟩
theorem Ky.to {P:Nat→Prop}{a b:World}(h:Ky P a b){B:Nat}(hB:B≤a.heap.size)(hP:∀k,P k→B≤k):Below B a b :=
 ⟨h.os,h.tape,h.output,h.size,fun k hk=>h.block k (Nat.lt_of_lt_of_le hk hB) (fun hp=>Nat.not_lt.2 (hP k hp) hk)⟩
theorem Ky.nd {P:Nat→Prop}{w w':World}(h:Ky P w w'){b o:Nat}{x:Nd}(hx:NdAt w b o x)(hb:b<w.heap.size)(hp:¬ P b):NdAt w' b o x:=hx.below (h.block b hb hp)
def mix (x y:Nd)(k:Nat):Nd:=⟨x.lv,if 0<k then y.a else x.a,if 1<k then y.b else x.b,if 2<k then y.c else x.c,if 3<k then y.d else x.d⟩
theorem zhE {x y:Nd}(h:x.lv=y.lv):mix x y 4=y:=by
 unfold mix;rw[h];rfl
theorem zsx (x y:Nd)(k:Nat){i:Nat}(hi:i<4):(mix x y k).kid i=if i<k then y.kid i else x.kid i:=by
 match i,hi with
 | 0,_=>rfl
 | 1,_=>rfl
 | 2,_=>rfl
 | 3,_=>rfl
def zaX (w:World)(g:Nat)(x:Nd):Prop:=w.heap[g]?=some (.cells #[.int .i64 x.lv,.int .i64 x.a,.int .i64 x.b,.int .i64 x.c,.int .i64 x.d] 70)
theorem zaX.lt {w:World}{g:Nat}{x:Nd}(h:zaX w g x):g<w.heap.size:=(Array.getElem?_eq_some_iff.1 h).1
theorem zaX.at_ {w:World}{g:Nat}{x:Nd}(h:zaX w g x):NdAt w g 0 x:=by
 refine⟨?_,?_,?_,?_,?_⟩ <;> (rw[cell_of_row w g _ _ _ (0,0) h];rfl)
theorem zaX.free {w:World}{g:Nat}{x:Nd}(h:zaX w g x)(k:Nat):w.frozen? ⟨g,k,none⟩=false:=frozen_of_row w g k _ _ h
theorem zaX.new (w:World)(x:Nd):zaX (w.alloc (.cells #[.int .i64 x.lv,.int .i64 x.a,.int .i64 x.b,.int .i64 x.c,.int .i64 x.d] 70)) w.heap.size x:=heap_alloc_new w _
theorem zaX.stay {w w':World}{g:Nat}{x:Nd}(h:zaX w g x)(hb:w'.heap[g]?=w.heap[g]?):zaX w' g x:=hb.trans h
theorem zaX.setKid {w:World}{g:Nat}{x y:Nd}{k:Nat}(h:zaX w g (mix x y k))(hk:k<4){o:Nat}(ho:o=1+k){u:Int}(hu:u=y.kid k):zaX (w.setCell ⟨g,o,none⟩ (.int .i64 u)) g (mix x y (k+1)):=by
 subst ho;subst hu;refine(heap_setCell_same w g (1+k) _ _ _ h).trans ?_
 match k,hk with
 | 0,_=>rfl
 | 1,_=>rfl
 | 2,_=>rfl
 | 3,_=>rfl
def OwnD (w:World)(base g n:Nat)(ds:List Nat):Prop :=
 ds.length=n∧w.ownsRow base 3 1 (.slice (some ⟨g,0,none⟩) n n) n (ds.map fun k:Nat=>Value.int .i64 (k:Int))
theorem OwnD.cell {w:World}{base g n:Nat}{ds:List Nat}(h:OwnD w base g n ds){k:Nat}(hk:k<n):w.cell? ⟨g,k,none⟩=some (.int .i64 ((ds.getD k 0:Nat):Int)):=by
 have hl:k<ds.length:=by have:=h.1;omega
 rw[h.2.cellAt k (by omega),List.getElem?_map,List.getD_eq_getElem?_getD,List.getElem?_eq_getElem hl];rfl
theorem OwnD.free {w:World}{base g n:Nat}{ds:List Nat}(h:OwnD w base g n ds)(k:Nat):w.frozen? ⟨g,k,none⟩=false:=h.2.frozenAt k
theorem OwnD.set {w:World}{base g n:Nat}{ds:List Nat}(h:OwnD w base g n ds)(k u:Nat):OwnD (w.setCell ⟨g,k,none⟩ (.int .i64 (u:Int))) base g n (ds.set k u):=by
 refine⟨by simpa using h.1,?_⟩;rw[List.map_set];exact(h.2.stored k _).1
theorem zuE (n:Nat):(madeCells (Value.cells (.int .i64 0)) (n*1)).toList=(List.replicate n 0).map (fun k:Nat=>Value.int .i64 (k:Int)):=by
 rw[Nat.mul_one];refine List.ext_getElem (by simp[madeCells]) fun i h1 h2=>?_;simp[madeCells,Value.cells,Nat.mod_one]
theorem OwnD.made {w:World}{base g n:Nat}(h:w.ownsRow base 3 1 (.slice (some ⟨g,0,none⟩) n n) n (madeCells (Value.cells (.int .i64 0)) (n*1)).toList):OwnD w base g n (List.replicate n 0) :=
 ⟨by simp,by rw[←zuE];exact h⟩
theorem OwnD.lt {w:World}{base g n:Nat}{ds:List Nat}(h:OwnD w base g n ds):base≤g∧g<w.heap.size:=h.2.lt g rfl
theorem OwnD.gbr {w w':World}{base g n:Nat}{ds:List Nat}{row:Option Nat}(h:OwnD w base g n ds)(hg:w.grownBy w' row)(hv:row≠some g):OwnD w' base g n ds:=⟨h.1,h.2.kept hg (.inr (fun e=>hv e.symm))⟩
theorem zbu (w:World)(p:Addr)(u:Value):w.grownBy (w.setCell p u) (some p.block) :=
 ⟨rfl,rfl,rfl,by simp[World.setCell],fun i _ hi=>Below.heap_setCell _ _ _ _ (fun e=>hi (by rw[e]))⟩
theorem zfT (w:World)(base:Nat):OwnN w base (.slice none 0 0) []:=⟨by simp,World.ownsRow_nil w base _ 5⟩
theorem zjB {v:Value}{r:Option Nat}(h:∀k,v.ownBlock=some k→r≠some k):v.ownBlock=none∨v.ownBlock≠r:=by
 cases hv:v.ownBlock with
 | none=>exact .inl rfl
 | some k=>exact .inr (fun e=>h k hv e.symm)
theorem zmd (A:Option Addr)(c n:Nat)(l:List Nd)(p k:Nat)(w:World)(h:Ns w A c l)(hn:l.length=n)(hl:zac l=true)(hp:p<n)(hlv:1<(at_ l p).lv)(hk:k<4) :
  Calls Tryz.prog 141 #[.slice A n c,.int .i64 ((p:Int)+1),.int .i64 (k:Int)] w fun e w'=>e=.returned (.int .i64 (innK l (at_ l p) k))∧w=w':=by
 have hcap:=h.cap;rw[hn] at hcap;have hpl:p<l.length:=by omega
 obtain⟨b,off,rfl,hb,hc⟩:=h.at_ (by omega)
 have hyc:=(hc p hpl).kid hk;have hfk:=zai (zaf hl hpl) hk;obtain⟨R,hR⟩:∃R,R=innK l (at_ l p) k:=⟨_,rfl⟩;rw[←hR];obtain⟨y,hy⟩:∃y,y=(at_ l p).kid k:=⟨_,rfl⟩;unfold innK at hR;rw[←hy] at hR hfk hyc;have i1:(p:Int)<(n:Int):=by omega
 have i2:(k:Int)<4:=by omega
 rcases zaA (by omega) hfk with rfl|⟨r,rfl,hr,_⟩
 ·rw[if_pos rfl] at hR;subst hR;clear hy hfk hn hl hlv hc h;go_enter Tryz.func141,Tryz.ntmps141;go_wp2_with fail;go_ret;exact⟨rfl,rfl⟩
 ·rw[if_neg (by omega),show((r:Int)+1).toNat-1=r by omega] at hR;obtain⟨k2,hk2⟩:∃k2,k2=3-k:=⟨_,rfl⟩;have hzc:=(hc r hr).kid (q:=k2) (by omega);rw[←hk2] at hR;rw[←hR] at hzc;have t1:((r:Int)+1==0)=false:=beq_eq_false_iff_ne.2 (by omega);have e3:(3:Int)-(k:Int)=(k2:Int):=by omega
  have i3:(r:Int)<(n:Int):=by omega
  have i4:(k2:Int)<4:=by omega
  have HE:=Hh e3;clear hy hfk hn hl hlv hc hk2 hR h hr;go_enter Tryz.func141,Tryz.ntmps141;go_wp2_with fail;go_ret;exact⟨rfl,rfl⟩
theorem zdX (A:Option Addr)(c n:Nat)(l:List Nd)(x:Nd)(w:World)(h:Ns w A c l)(hn:l.length=n)(hx:x.wf) :
  Calls Tryz.prog 142 #[.slice A n c,ndv x] w fun e w'=>e=.returned (.int .i64 ((fnd l x:Nat):Int))∧Below w.heap.size w w':=by
 have hcap:=h.cap;rw[hn] at hcap;have hb:=(Below.refl w.heap.size w).alloc (Nat.le_refl _) (.cells #[.int .i64 x.lv,.int .i64 x.a,.int .i64 x.b,.int .i64 x.c,.int .i64 x.d] 70);have HB:=Hh hb;have HNL:=Hh (h.below hb);have HL:=Hh hn;have HWX:=Hh hx;obtain⟨R,hR⟩:∃R,R=fnd l x:=⟨_,rfl⟩;rw[←hR];have HR:=Hh hR;have hbx:=NdAt.new w x 70;clear h hn hb hx hR;go_enter Tryz.func142,Tryz.ntmps142;go_wp2_with fail;obtain⟨f1,f2,f3,f4,f5⟩:=hbx;generalize hg:w.heap.size=g at *;generalize hW:w.alloc _=W at *;have HG:=Hh hg;clear hW hg;go_loopw [5] (fun i wr=>∃(k nd:Nat),wr=W.drewN nd∧k≤n∧i=.int .i64 k∧∀j,j<k→at_ l j≠x) (fun i _=>n-(intOf i).toNat)
 case atStart=>exact⟨0,0,rfl,by omega,rfl,fun j hj=>by omega⟩
 case round =>
  obtain⟨k,nd,rfl,hk,rfl,hall⟩:=hrel;have HA:=Hh hall;clear hall;by_cases hlt:k<n
  ·obtain⟨b,off,rfl,hb,hc⟩:=HNL.out.at_ (by rw[HL.out];omega)
   obtain⟨c1,c2,c3,c4,c5⟩:=hc k (by rw[HL.out];exact hlt);have hwy:=HNL.out.wf (i:=k) (by rw[HL.out];exact hlt);clear hc;obtain⟨y,hy⟩:∃y,y=at_ l k:=⟨_,rfl⟩
   rw[←hy] at c1 c2 c3 c4 c5 hwy;have HY:=Hh hy;have hq:=zpZ y x hwy HWX.out;have i1:(k:Int)<(n:Int):=by omega
   have i2:(0:Int)≤(k:Int):=by omega
   clear hy hwy;by_cases hxy:y=x
   ·have HXY:=Hh hxy;rw[decide_eq_true hxy] at hq;clear hxy;go_wp2_with fail;go_quiet (fail);go_wp2_with fail;go_ret;refine⟨?_,zcS (by rw[HG.out];exact HB.out) _⟩;rw[HR.out,zhv (i:=k) (by rw[HL.out];exact hlt) (by rw[←HY.out];exact HXY.out) HA.out];simp
   ·have HXY:=Hh hxy;rw[decide_eq_false hxy] at hq;clear hxy;go_wp2_with fail;go_quiet (fail);go_wp2_with fail;go_roundw
    case rel =>
     refine⟨k+1,_,rfl,by omega,by go_num,fun j hj=>?_⟩;rcases Nat.lt_or_ge j k with h1|h1
     ·exact HA.out j h1
     ·rw[show j=k by omega,←HY.out];exact HXY.out
    case measure=>simp[intOf];omega
  ·go_wp2_with fail;go_ret;refine⟨?_,zcS (by rw[HG.out];exact HB.out) _⟩;rw[HR.out,zkJ fun j hj=>HA.out j (by rw[HL.out] at hj;omega)];rfl
theorem zkP (A:Option Addr)(c n:Nat)(l:List Nd)(w:World)(h:Ns w A c l)(hn:l.length=n) :
  Calls Tryz.prog 42 #[.slice A n c] w fun e w'=>e=.returned (.bool (zac l))∧Below w.heap.size w w' :=
 (znw A c n l w h hn).mono fun _ _ ⟨he,hw⟩=>⟨he,zjp hw⟩
def okB (l:List Nd)(k:Int):Bool:=zac l&&decide (0≤k∧k≤(l.length:Int))
def ofQ (l:List Nd)(k:Int):List Nd:=if okB l k=true then OfL l k.toNat else []
def ofE (l:List Nd)(k:Int):Int:=if okB l k=true then 0 else 1
def RetO (l:List Nd)(k:Int)(w:World)(e:Ending)(w':World):Prop :=
 ∃A c,e=.returned (.tuple #[.agg #[.slice A (ofQ l k).length c],.int .i64 (ofE l k)])∧Ns w' A c (ofQ l k)∧(A=none→c=0)∧Below w.heap.size w w'
theorem ztK {l:List Nd}{k:Int}(h:okB l k=false):ofQ l k=[]∧ofE l k=1:=by
 unfold ofQ ofE;rw[if_neg (by rw[h];simp),if_neg (by rw[h];simp)];exact⟨rfl,rfl⟩
theorem zsy {l:List Nd}{n:Nat}(hl:zac l=true)(hn:n≤l.length):ofQ l (n:Int)=OfL l n∧ofE l (n:Int)=0:=by
 have h:okB l (n:Int)=true:=by
  unfold okB;rw[hl,decide_eq_true (by omega)];rfl
 unfold ofQ ofE;rw[if_pos h,if_pos h,Int.toNat_natCast];exact⟨rfl,rfl⟩
theorem ztL {l:List Nd}{k:Int}(h:zac l=false∨k<0∨(l.length:Int)<k):okB l k=false:=by
 unfold okB;rcases h with h|h
 ·rw[h];rfl
 ·rw[decide_eq_false (by omega),Bool.and_false]
theorem zkQ (w:World):Ns w none 0 []:=⟨by simp,Nat.le_refl _,by simp[maxLen],fun h=>absurd h (Nat.lt_irrefl 0)⟩
def zuF (l:List Nd)(k:Nat)(w:World)(e:Ending)(w':World):Prop :=
 ∃v cur j,e=.returned (.tuple #[v,.int .i64 ((j:Nat):Int)])∧OwnN w' w.heap.size v cur∧zac cur=true∧j≤cur.length∧den cur j=shrT (den l k)∧cur.length≤l.length+1329∧Below w.heap.size w w'
def lenOf:Value→Nat|.slice _ n _=>n|_=>0
theorem OwnN.stays {w w':World}{base:Nat}{v:Value}{l:List Nd}(h:OwnN w base v l)(hb:Below w.heap.size w w'):OwnN w' base v l :=
 h.gbr (row:=none) ⟨hb.os,hb.tape,hb.output,hb.size,fun i hi _=>hb.block i hi⟩ (by
  cases hv:v.ownBlock
  ·exact .inl rfl
  ·exact .inr (by simp))
def SS (l:List Nd)(t:Tr)(cur:List Nd)(p:Nat):Prop:=zac cur=true∧p<cur.length∧den cur (p+1)≠.e∧shrT (den cur (p+1))=t∧(cur.length:Int)+(at_ cur p).lv≤l.length+1329
theorem SS.start {l:List Nd}(hl:zac l=true){p:Nat}(hp:p<l.length)(hne:den l (p+1)≠.e):SS l (shrT (den l (p+1))) l p:=by
 have:=zaq (zaf hl hp);exact⟨hl,hp,hne,rfl,by omega⟩
theorem SS.next {l cur:List Nd}{t:Tr}{p:Nat}(h:SS l t cur p)(hh:holT (den cur (p+1))=true):SS l t (cur++[innN cur (at_ cur p)]) cur.length:=by
 obtain⟨h1,h2,h3,h4,h5⟩:=h;obtain⟨s1,s2,s3,s4⟩:=zql h1 h2 hh;refine⟨s1,by simp,by rw[s2];exact s3,by rw[s2,s4];exact h4,?_⟩;rw[zey];show(((cur++[_]).length:Nat):Int)+((at_ cur p).lv-1)≤_;rw[List.length_append];show((cur.length+1:Nat):Int)+_≤_;omega
theorem SS.len {l cur:List Nd}{t:Tr}{p:Nat}(h:SS l t cur p):cur.length≤l.length+1328:=by
 obtain⟨h1,h2,h3,h4,h5⟩:=h;have:=zaq (zaf h1 h2);omega
theorem zjC (A:Option Addr)(c n:Nat)(l:List Nd)(k:Nat)(w:World)(h:Ns w A c l)(hn:l.length=n)(hl:zac l=true)(hn9:n≤900000)(hA:A=none→c=0)(hk:k≤n) :
  Calls Tryz.prog 92 #[.slice A n c,.int .i64 (k:Int)] w (zuF l k w):=by
 have hcap:=h.cap;rw[hn] at hcap;have HN:=Hh h;have HL:=Hh hn;have HLL:=Hh hl;have HA:=Hh hA;have q0:True:=trivial;have hemp:=zdT hl (n:=k) (by omega);clear h hn hl hA;by_cases he:den l k=.e
 ·have HE:=Hh he;rw[he] at hemp;have HM:=Hh (show empB l k=true from hemp);clear he hemp;go_enter Tryz.func92,Tryz.ntmps92;go_wp2_with (first
   | (have _t:=q0;at_builtin;clear _t;go_loud (refine zap _ rfl _ _ rfl w.heap.size _ [] l A n c rfl rfl (OwnN.start _) (HN.out.below ((Below.refl _ w).alloc (Nat.le_refl _) _)) HL.out HA.out (by simp;omega) (by simp) ?_;intro v2 w2 ho2 hg2 hk2;rw[List.nil_append] at ho2;have HO:=Hh ho2;obtain⟨A2,c2,hv2,hn2,hA2,hB2⟩:=ho2.shape;rw[HL.out] at hv2;subst hv2;have HN2:=Hh hn2;have HB:=Hh (((Below.refl _ w).alloc (Nat.le_refl _) _).grown hg2 (by simp) (fun k hk=>by cases hk;exact Nat.le_refl _));clear ho2 hg2 hk2 hn2 hA2 hB2;have q1:=q0;clear q0))
   | (have _t:=q1;go_at_call 45;clear _t;go_loud (refine(zgH _ _ n l k _ HN2.out HL.out HLL.out (by omega) hk).mono ?_;rintro e w3 ⟨rfl,b3⟩;have HB3:=Hh b3;clear b3;rw[HM.out];have q2:=q1;clear q1)))
  go_ret2;refine⟨.slice A2 n c2,l,0,rfl,?_,HLL.out,Nat.zero_le _,?_,by omega,HB.out.trans (HB3.out.mono HB.out.size)⟩
  ·exact HO.out.stays HB3.out
  ·rw[zan,HE.out,zsn]
 ·obtain⟨p,rfl⟩:∃p,k=p+1:=⟨k-1,by have:k≠0:=fun e=>he (by rw[e];exact zan l);omega⟩;have HM:=Hh (show empB l (p+1)=false by rw[hemp];exact ztF.2 he);have HS0:=Hh (SS.start HLL.out (by rw[HL.out];omega) he);clear he hemp;go_enter Tryz.func92,Tryz.ntmps92;go_wp2_with (first
   | (have _t:=q0;at_builtin;clear _t;go_loud (refine zap _ rfl _ _ rfl w.heap.size _ [] l A n c rfl rfl (OwnN.start _) (HN.out.below ((Below.refl _ w).alloc (Nat.le_refl _) _)) HL.out HA.out (by simp;omega) (by simp) ?_;intro v2 w2 ho2 hg2 hk2;rw[List.nil_append] at ho2;have HO:=Hh ho2;obtain⟨A2,c2,hv2,hn2,hA2,hB2⟩:=ho2.shape;rw[HL.out] at hv2;subst hv2;have HN2:=Hh hn2;have HB:=Hh (((Below.refl _ w).alloc (Nat.le_refl _) _).grown hg2 (by simp) (fun k hk=>by cases hk;exact Nat.le_refl _));clear ho2 hg2 hk2 hn2 hA2 hB2;have q1:=q0;clear q0))
   | (have _t:=q1;go_at_call 45;clear _t;go_loud (refine(zgH _ _ n l (p+1) _ HN2.out HL.out HLL.out (by omega) hk).mono ?_;rintro e w3 ⟨rfl,b3⟩;have HB3:=Hh b3;clear b3;rw[HM.out];have q2:=q1;clear q1)))
  obtain⟨v0,hv0⟩:∃v0,v0=Value.slice A2 n c2:=⟨_,rfl⟩;have HO3:=Hh (show OwnN w3 w.heap.size v0 l by rw[hv0];exact HO.out.stays HB3.out);have HBA:=Hh (HB.out.trans (HB3.out.mono HB.out.size));rw[←hv0];clear hv0;go_loopw [6,1,7,8] (fun z1 z2 z3 z4 wr=>∃(cur:List Nd) (r:Nat) (v u1 u2:Value),v=z1∧z2=.int .i64 ((r:Int)+1)∧z3=u1∧z4=u2∧OwnN wr w.heap.size v cur∧SS l (shrT (den l (p+1))) cur r∧Below w.heap.size w wr) (fun z1 _ _ _ _=>n+2000-lenOf z1)
  case atStart=>exact⟨l,p,_,_,_,rfl,by simp,rfl,rfl,HO3.out,HS0.out,HBA.out⟩
  case round =>
   obtain⟨cur,r,v,u1,u2,rfl,rfl,rfl,rfl,how,hss,hbw⟩:=hrel;have HS:=Hh hss;have HW:=Hh how;have hlen:=hss.len;rw[HL.out] at hlen;obtain⟨A3,c3,rfl,hn3,hA3,hB3⟩:=how.shape;have HN3:=Hh hn3;have HA3:=Hh hA3;have HB4:=Hh hB3;obtain⟨g1,g2,g3,g4,g5⟩:=hss;have hhol:=zmc g1 g2 g3;obtain⟨cn,hcn⟩:∃cn,cn=cur.length:=⟨_,rfl⟩;rw[←hcn] at g2 hlen ⊢;have HCN:=Hh hcn;have G1:=Hh g1;have G3:=Hh g3;have G4:=Hh g4;clear how hn3 hA3 hB3 g1 g3 g4 g5 hcn;cases hh:holT (den cur (r+1)) with
   | false =>
    have HH:=Hh hh;rw[hh] at hhol;have HHO:=Hh hhol;clear hh hhol;go_wp2_with (go_at_call 62;go_loud (refine(zfO _ _ cn cur (r+1) _ HN3.out HCN.out.symm G1.out (by omega) (by omega)).mono ?_;rintro e w4 ⟨rfl,b4⟩;have HB5:=Hh b4;clear b4;rw[HHO.out]));go_ret2;have hcn:=HCN.out;have hll:=HL.out;refine⟨.slice A3 cn c3,cur,r+1,rfl,?_,G1.out,by omega,?_,by omega,hbw.trans (HB5.out.mono hbw.size)⟩
    ·rw[hcn];exact HW.out.stays HB5.out
    ·rw[←G4.out,zcc HH.out]
   | true =>
    have HH:=Hh hh;rw[hh] at hhol;have HHO:=Hh hhol;have hlv:=(zrz G1.out (by rw[←HCN.out];exact g2) hh).1;clear hh hhol;obtain⟨b,off,rfl,hb,hc⟩:=HN3.out.at_ (by rw[←HCN.out];omega)
    have c1:=(hc r (by rw[←HCN.out];exact g2)).1;have HLV:=Hh hlv;have HBB:=Hh hb;obtain⟨x,hx⟩:∃x,x=at_ cur r:=⟨_,rfl⟩
    rw[←hx] at c1 hlv;have HX:=Hh hx;have hfx:=zaq (zaf G1.out (i:=r) (by rw[←HCN.out];exact g2));rw[←hx] at hfx;have i1:(r:Int)<(cn:Int):=by omega
    clear hc hb hx;go_wp2_with (go_at_call 62;go_loud (refine(zfO _ _ cn cur (r+1) _ HN3.out HCN.out.symm G1.out (by omega) (by omega)).mono ?_;rintro e w4 ⟨rfl,b4⟩;have HB5:=Hh b4;have c1:=(World.cell?_of_block (w:=wr) (a:=⟨b,off+r*5,none⟩) (b4.block b HBB.out)).trans c1;clear b4;rw[HHO.out]));have HBW4:=Hh (hbw.trans (HB5.out.mono hbw.size));have HW4:=Hh (HW.out.stays HB5.out);have HN4:=Hh (HN3.out.below HB5.out);obtain⟨g,hg⟩:∃g,g=w4.heap.size:=⟨_,rfl⟩;have hbox:zaX (w4.alloc (.cells #[.int .i64 (x.lv-1),.int .i64 0,.int .i64 0,.int .i64 0,.int .i64 0] 70)) g (mix ⟨x.lv-1,0,0,0,0⟩ (innN cur x) 0):=by rw[hg];exact zaX.new w4 ⟨x.lv-1,0,0,0,0⟩
    have HBOX:=Hh hbox;have HG5:=Hh (World.grownBy_alloc w4 (.cells #[.int .i64 (x.lv-1),.int .i64 0,.int .i64 0,.int .i64 0,.int .i64 0] 70) (some g));have HGB:=Hh (show b<g by rw[hg];exact Nat.lt_of_lt_of_le HBB.out HB5.out.size);have HGW:=Hh (show w.heap.size≤g by rw[hg];exact HBW4.out.size);have HGO:=Hh hg;rw[←hg];generalize hWW:w4.alloc _=W at *;clear hWW hg hbox c1;go_loopw [8] (fun i wq=>∃(q:Nat),q≤4∧i=.int .i64 q∧zaX wq g (mix ⟨x.lv-1,0,0,0,0⟩ (innN cur x) q)∧w4.grownBy wq (some g)) (fun i _=>4-(intOf i).toNat)
    case atStart=>exact⟨0,by omega,rfl,HBOX.out,HG5.out⟩
    case round =>
     obtain⟨q,hq,rfl,hbq,hgq⟩:=hrel;have HBQ:=Hh hbq;have HGQ:=Hh hgq;have HNQ:=Hh (HN4.out.gbr hgq (fun a ea e=>by cases ea;exact absurd (Option.some.inj e) (Nat.ne_of_lt HGB.out)));clear hbq hgq;by_cases hq4:q<4
     ·have i2:(q:Int)<4:=by omega
      have i3:(0:Int)≤(q:Int):=by omega
      have hfz:=HBQ.out.free (1+q);have hce:=HBQ.out.at_.kid hq4
      have e1:0+1+q=1+q:=by omega
      rw[e1] at hce;generalize (mix ⟨x.lv-1,0,0,0,0⟩ (innN cur x) q).kid q=z at hce;clear e1;go_wp2_with (go_at_call 141;go_loud (refine(zmd _ _ cn cur r q _ HNQ.out HCN.out.symm G1.out g2 HLV.out hq4).mono ?_;rintro e w5 ⟨rfl,rfl⟩;rw[←HX.out]));go_roundw
      case rel =>
       refine⟨q+1,by omega,by go_num,HBQ.out.setKid hq4 (by omega) (zkM cur x hq4).symm,zaP HGQ.out (zbu _ _ _)⟩
      case measure=>simp[intOf];omega
     ·have hq5:q=4:=by omega
      subst hq5;rw[zhE (show(⟨x.lv-1,0,0,0,0⟩:Nd).lv=(innN cur x).lv from rfl)] at HBQ;obtain⟨f1,f2,f3,f4,f5⟩:=HBQ.out.at_
      have HSN:=Hh (HS.out.next HH.out);rw[←HX.out] at HSN;obtain⟨y,hy⟩:∃y,y=innN cur x:=⟨_,rfl⟩;rw[←hy] at f1 f2 f3 f4 f5 HSN;have hwy:y.wf:=by
       have h1:=(zkN G1.out (p:=r) (by rw[←HCN.out];exact g2) HLV.out G3.out).1;rw[←HX.out,←hy] at h1;exact ztJ h1 (by rw[←HCN.out];omega)
      have HWY:=Hh hwy;have HOQ:=Hh (show OwnN wr w.heap.size (.slice (some ⟨b,off,none⟩) cn c3) cur by
       have h1:=HW4.out.gbr HGQ.out (.inr (fun e=>absurd (Option.some.inj e) (Nat.ne_of_lt HGB.out)));rw[HCN.out];exact h1)
      have hgs:w.heap.size≤wr.heap.size:=Nat.le_trans HBW4.out.size HGQ.out.size;clear hwy hy;go_wp2_with (at_builtin;go_loud (refine zap _ rfl _ _ rfl w.heap.size _ cur [y] _ 1 1 rfl rfl (HOQ.out.alloc _) (zhD _ _ y HWY.out rfl) rfl (fun e=>by cases e) (by rw[←HCN.out];omega) (by simp;omega) ?_;intro v6 w6 ho6 hg6 hk6;obtain⟨A6,c6,hv6,-,-,-⟩:=ho6.shape;have HO6:=Hh ho6;have HG6:=Hh hg6;have HK6:=Hh hk6;subst hv6;clear ho6 hg6 hk6));go_roundw
      case rel =>
       refine⟨cur++[y],cur.length,.slice A6 (cur++[y]).length c6,_,_,(by simp),?_,rfl,rfl,HO6.out,HSN.out,?_⟩
       ·simp
       ·refine((HBW4.out.grown HGQ.out HBW4.out.size (fun k hk=>by cases hk;exact HGW.out)).alloc hgs _).grown HG6.out (by simp;omega) (fun k hk=>(HOQ.out.lt k hk).1)
      case measure =>
       have hcn:=HCN.out;simp[lenOf];omega
def Dn (l out:List Nd)(ds:List Nat):Prop:=∀i,i≤l.length→0<ds.getD i 0→NumT out (den l i) ((ds.getD i 0:Nat):Int)
theorem Dn.pre {l out m:List Nd}{ds:List Nat}(h:Dn l out ds)(hp:out <+: m):Dn l m ds:=fun i hi h0=>znC hp (h i hi h0)
theorem Dn.set {l out:List Nd}{ds:List Nat}(h:Dn l out ds){j u:Nat}(hu:NumT out (den l j) (u:Int)):Dn l out (ds.set j u):=by
 intro i hi h0;by_cases e:i=j
 ·subst e;by_cases hl:i<ds.length
  ·rw[List.getD_eq_getElem?_getD,List.getElem?_set_self hl];exact hu
  ·rw[List.set_eq_of_length_le (by omega)] at h0 ⊢;exact h i hi h0
 ·rw[List.getD_eq_getElem?_getD,List.getElem?_set_ne (fun e2=>e e2.symm),←List.getD_eq_getElem?_getD] at h0 ⊢;exact h i hi h0
def RetV (l:List Nd)(j:Nat)(out:List Nd)(base g n:Nat)(v:Value)(w:World)(e:Ending)(w':World):Prop :=
 ∃v' ds',e=.returned (.tuple #[v',.slice (some ⟨g,0,none⟩) (n+1) (n+1),.int .i64 (enc (den l j) out).2])∧OwnN w' base v' (enc (den l j) out).1∧OwnD w' base g (n+1) ds'∧Dn l (enc (den l j) out).1 ds' ∧
  v'.ownBlock≠some g∧(∀k,v'.ownBlock=some k→v.ownBlock=some k∨w.heap.size≤k)∧Ky (fun k=>k=g∨v.ownBlock=some k) w w'
theorem Ky.ns {P:Nat→Prop}{w w':World}(h:Ky P w w'){A:Option Addr}{c:Nat}{l:List Nd}(hn:Ns w A c l)(hp:∀a,A=some a→¬ P a.block):Ns w' A c l :=
 ⟨hn.1,hn.2.1,hn.2.2.1,fun h0=>by
  obtain⟨b,off,e,hlt,hc⟩:=hn.2.2.2 h0;exact⟨b,off,e,Nat.lt_of_lt_of_le hlt h.size,fun i hi=>(hc i hi).below (h.block b hlt (hp _ e))⟩⟩
theorem Ky.cell {P:Nat→Prop}{w w':World}(h:Ky P w w'){a:Addr}{u:Value}(hc:w.cell? a=some u)(hp:¬ P a.block):w'.cell? a=some u :=
 (World.cell?_of_block (w:=w) (h.block a.block (World.block_lt_of_cell? w a hc) hp)).trans hc
theorem ztM {l:List Nd}(h:zac l=true){p:Nat}(hp:p<l.length){out:List Nd}(hi:InvT l out)(hl9:l.length≤1000000):(topN (kT l (at_ l p)) out (at_ l p).lv).wf:=by
 have hv:=zaq (zaf h hp);have key:∀i,i<4→in64 (numK (kT l (at_ l p)) out i):=by
  intro i hi4;have h1:=zfo h hp hi i (by omega);have h2:=zfo h hp hi (i+1) (by omega);have hs:=zbm _ _ _ (zss h hp hi4) h1.1;have:=(znE (out:=outK (kT l (at_ l p)) out (i+1)) h2.1.1 hv.1 (zss h hp hi4) hs.num).1;exact zdV this (by have:=h2.len;omega)
 exact⟨⟨by show _≤(at_ l p).lv;omega,by show(at_ l p).lv≤_;omega⟩,key 0 (by omega),key 1 (by omega),key 2 (by omega),key 3 (by omega)⟩
theorem zqq {out:List Nd}{x:Nd}(h:fnd out x=0):add out x=(out++[x],out.length+1):=by
 unfold add;rw[if_pos h]
theorem zqr {out:List Nd}{x:Nd}{k:Nat}(h:fnd out x=k+1):add out x=(out,k+1):=by
 unfold add;rw[if_neg (by omega),h]
theorem zuG {l:List Nd}{x:Nd}(hx:fitB l x=true)(h1:x.lv≠1){i:Nat}(hi:i<4):∃r:Nat,r≤l.length∧kT l x i=den l r∧x.kid i=(r:Int):=by
 unfold kT;rw[zax h1];rcases zaA h1 (zai hx hi) with e|⟨q,e,hq,_⟩
 ·exact⟨0,Nat.zero_le _,by rw[e];rfl,by rw[e];rfl⟩
 ·exact⟨q+1,by omega,by rw[e,show((q:Int)+1).toNat=q+1 by omega],by omega⟩
theorem zhF {l out o4 o5:List Nd}{y:Nd}{p k base g n:Nat}{v v6:Value}{w w6:World}{ds1:List Nat}{u:Int}(hspec:EncT u (den l (p+1)) out (enc (den l (p+1)) out))(hv2:enc (den l (p+1)) out=((add o4 y).1,((add o4 y).2:Int)))(had:add o4 y=(o5,k))(hpre:o4 <+: o5)
  (h1:OwnN w6 base v6 o5) (h2:OwnD w6 base g (n+1) ds1) (h3:Dn l o4 ds1) (h4:v6.ownBlock≠some g) (h5:∀k,v6.ownBlock=some k→v.ownBlock=some k∨w.heap.size≤k) (h6:Ky (fun k=>k=g∨v.ownBlock=some k) w w6) :
  RetV l (p+1) out base g n v w (.returned (.tuple #[v6,.slice (some ⟨g,0,none⟩) (n+1) (n+1),.int .i64 (k:Int)])) (w6.setCell ⟨g,p+1,none⟩ (.int .i64 (k:Int))):=by
 have hn:=hspec.num;rw[hv2,had] at hn;unfold RetV;rw[hv2,had];exact⟨v6,ds1.set (p+1) k,rfl,h1.gbr (zbu _ _ _) (.inr h4),h2.set _ _,(h3.pre hpre).set hn,h4,h5,h6.set _ (fun _=>.inl rfl) _⟩
theorem zqs (x:Nd)(q:Nat):mix x x q=x:=by
 unfold mix;simp only[ite_self]
theorem zuH {P:Nat→Prop}{w w':World}(h:Ky P w w')(n:Nat):Ky P w (w'.drewN n):=⟨h.os,h.tape,h.output,h.size,h.block⟩
theorem zkR (A:Option Addr)(c n E base g:Nat)(l:List Nd)(hl:zac l=true)(hn:l.length=n)(hn9:n≤990000)(j:Nat)(out:List Nd)(ds:List Nat)(v:Value)(w:World)(hj:j≤n)(he:(den l j).isE=true)(hcap:n≤c∧c≤9223372036854775807)
  (hdn:Dn l out ds) (hcs:∀i,i≤n→w.cell? ⟨E,i,none⟩=some (.bool (empB l i))) (how:OwnN w base v out) (hod:OwnD w base g (n+1) ds) (hvg:v.ownBlock≠some g) :
  Calls Tryz.prog 93 #[.slice A n c,.slice (some ⟨E,0,none⟩) (n+1) (n+1),.int .i64 (j:Int),v,.slice (some ⟨g,0,none⟩) (n+1) (n+1)] w (RetV l j out base g n v w):=by
 have hec:=hcs j hj;rw[zdT hl (by omega),he] at hec;have HO:=Hh how;have HD:=Hh hod;have HDN:=Hh hdn;have HVG:=Hh hvg;have HEE:=Hh he;have i1:(j:Int)<(n:Int)+1:=by omega
 have i0:(0:Int)≤(j:Int):=by omega
 obtain⟨R,hR⟩:∃R,R=RetV l j out base g n v w:=⟨_,rfl⟩;rw[←hR];have HR:=Hh hR;clear hcs how hod hdn hvg hR hl hn he;go_enter Tryz.func93,Tryz.ntmps93;go_wp2_with fail;go_ret3;rw[HR.out];unfold RetV;rw[zbD.1 HEE.out];exact⟨v,ds,rfl,HO.out,HD.out,HDN.out,HVG.out,fun k hk=>.inl hk,Ky.refl _ _⟩
theorem zjD (A:Option Addr)(c n E base g:Nat)(l:List Nd)(hl:zac l=true)(hn:l.length=n)(hn9:n≤990000)(j d:Nat)(out:List Nd)(ds:List Nat)(v:Value)(w:World)(hj:j≤n)(he:(den l j).isE=false)(hcap:n≤c∧c≤9223372036854775807)
  (hinv:InvT l out) (hdn:Dn l out ds) (hcs:∀i,i≤n→w.cell? ⟨E,i,none⟩=some (.bool (empB l i))) (how:OwnN w base v out) (hod:OwnD w base g (n+1) ds) (hvg:v.ownBlock≠some g) (hd:d=ds.getD j 0) (hd0:0<d) :
  Calls Tryz.prog 93 #[.slice A n c,.slice (some ⟨E,0,none⟩) (n+1) (n+1),.int .i64 (j:Int),v,.slice (some ⟨g,0,none⟩) (n+1) (n+1)] w (RetV l j out base g n v w):=by
 have hec:=hcs j hj;rw[zdT hl (by omega),he] at hec;have hcd:=hod.cell (k:=j) (by omega);rw[←hd] at hcd;have hnum:=hdn j (by omega) (by omega);rw[←hd] at hnum;have HM:=Hh (zfn hinv.1 _ _ hnum);have HO:=Hh how;have HD:=Hh hod;have HDN:=Hh hdn;have HVG:=Hh hvg;have i1:(j:Int)<(n:Int)+1:=by omega
 have i0:(0:Int)≤(j:Int):=by omega
 have t1:decide ((0:Int)<(d:Int))=true:=decide_eq_true (by omega);obtain⟨R,hR⟩:∃R,R=RetV l j out base g n v w:=⟨_,rfl⟩;rw[←hR];have HR:=Hh hR;clear hcs how hod hdn hvg hR hl hn he hinv hd hnum;go_enter Tryz.func93,Tryz.ntmps93;go_wp2_with fail;go_quiet (fail);go_wp2_with fail;go_ret3;rw[HR.out];unfold RetV;rw[HM.out];exact⟨v,ds,rfl,HO.out,HD.out,HDN.out,HVG.out,fun k hk=>.inl hk,zuH (Ky.refl _ _) _⟩
theorem zgN (A:Option Addr)(c n E base g:Nat)(l:List Nd)(hl:zac l=true)(hn:l.length=n)(hn9:n≤990000)(hA:∀a,A=some a→a.block<base)(hE:E≠g)(hg:base≤g) :
  ∀(m j:Nat) (out:List Nd) (ds:List Nat) (v:Value) (w:World),j≤n→(0<j→(at_ l (j-1)).lv≤m)→InvT l out→Dn l out ds→Ns w A c l→(∀i,i≤n→w.cell? ⟨E,i,none⟩=some (.bool (empB l i))) →
   OwnN w base v out→OwnD w base g (n+1) ds→v.ownBlock≠some g→v.ownBlock≠some E→base≤w.heap.size →
  Calls Tryz.prog 93 #[.slice A n c,.slice (some ⟨E,0,none⟩) (n+1) (n+1),.int .i64 (j:Int),v,.slice (some ⟨g,0,none⟩) (n+1) (n+1)] w (RetV l j out base g n v w):=by
 have HLL:=Hh hl;have HL:=Hh hn;have HA:=Hh hA;have HE:=Hh hE;have HG:=Hh hg;clear hl hn hA hE hg;intro m
 induction m with
 | zero =>
  intro j out ds v w hj hm hinv hdn hN hcs how hod hvg hve hbase;have hcap:=hN.cap;rw[HL.out] at hcap;have hj0:j=0:=by
   rcases Nat.eq_zero_or_pos j with h|h
   ·exact h
   ·have:=hm h;have:=zaq (zaf HLL.out (i:=j-1) (by rw[HL.out];omega));omega
  exact zkR A c n E base g l HLL.out HL.out hn9 j out ds v w hj (by rw[hj0,zan];rfl) hcap hdn hcs how hod hvg
 | succ m ih =>
  intro j out ds v w hj hm hinv hdn hN hcs how hod hvg hve hbase;have hcap:=hN.cap;rw[HL.out] at hcap;obtain⟨d,hd⟩:∃d,d=ds.getD j 0:=⟨_,rfl⟩;cases he:(den l j).isE with
  | true=>exact zkR A c n E base g l HLL.out HL.out hn9 j out ds v w hj he hcap hdn hcs how hod hvg
  | false =>
   by_cases hd0:0<d
   ·exact zjD A c n E base g l HLL.out HL.out hn9 j d out ds v w hj he hcap hinv hdn hcs how hod hvg hd hd0
   ·have hec:=hcs j hj;rw[zdT HLL.out (by rw[HL.out];exact hj),he] at hec;have hcd:=hod.cell (k:=j) (by omega);have hd00:ds.getD j 0=0:=by omega
    rw[hd00] at hcd;have hj0:j≠0:=fun e=>by rw[e,zan] at he;cases he
    obtain⟨p,rfl⟩:∃p,j=p+1:=⟨j-1,by omega⟩;have hpl:p<l.length:=by rw[HL.out];omega
    obtain⟨b,off,rfl,hb,hc⟩:=hN.at_ (by omega)
    obtain⟨c1,c2,c3,c4,c5⟩:=hc p hpl;have hfx:=Hh (zaf HLL.out hpl);have hkf:=Hh (zak.1 HLL.out p hpl);have hv2:=ziz HLL.out hpl out;rw[if_neg (by rw[he];simp)] at hv2;have hspec:=zbm _ _ out (zcn HLL.out p hpl) hinv.1;have hwy:=ztM HLL.out hpl hinv (by rw[HL.out];omega);have hiv:=zfo HLL.out hpl hinv;have hpre:=zqk HLL.out hpl hinv;have htone:=fun h=>zsr (l:=l) (x:=at_ l p) h out;have hkone:=fun h=>znH (l:=l) (x:=at_ l p) h out;have hlvm:(at_ l p).lv≤(m:Int)+1:=by
     have:=hm (by omega);rw[show p+1-1=p by omega] at this
     exact_mod_cast this
    obtain⟨x,hx⟩:∃x,x=at_ l p:=⟨_,rfl⟩
    rw[←hx] at c1 c2 c3 c4 c5 hfx hkf hv2 hwy hiv hpre htone hkone hlvm;obtain⟨y,hy⟩:∃y,y=topN (kT l x) out x.lv:=⟨_,rfl⟩;rw[←hy] at hv2 hwy htone;have HY:=Hh hy;have HX:=Hh hx;have HV2:=Hh hv2;have HSP:=Hh hspec;have HWY:=Hh hwy;have HIV:=Hh hiv;have HPRE:=Hh hpre;have HT1:=Hh htone;have HK1:=Hh hkone;have HNW:=Hh hN;have HCS:=Hh hcs;have HO:=Hh how;have HD:=Hh hod;have HDN:=Hh hdn;have HVG:=Hh hvg;have HVE:=Hh hve;have HES:=Hh (World.block_lt_of_cell? w _ (hcs 0 (Nat.zero_le _)));have i1:(p:Int)+1<(n:Int)+1:=by omega
    have i3:(p:Int)<(n:Int):=by omega
    have hxv:=zaq hfx.out;obtain⟨R,hR⟩:∃R,R=RetV l (p+1) out base g n v w:=⟨_,rfl⟩;rw[←hR];have HR:=Hh hR;have HNB:=Hh (zaX.new w x);have HBB:=Hh hb;rw[show((p+1:Nat):Int)=(p:Int)+1 by omega];clear hN hcs how hod hinv hdn hvg hve hd hR hd0 hd00 hc hj0 he hv2 hspec hwy hiv hpre htone hkone hy hx hb hm;go_enter Tryz.func93,Tryz.ntmps93;go_wp2_with fail;obtain⟨gx,hgx⟩:∃gx,gx=w.heap.size:=⟨_,rfl⟩;have HK0:=Hh (show Ky (fun k=>k=g∨v.ownBlock=some k) w (w.alloc (.cells #[.int .i64 x.lv,.int .i64 x.a,.int .i64 x.b,.int .i64 x.c,.int .i64 x.d] 70)) from(Ky.refl _ _).alloc _);have HO0:=Hh (HO.out.alloc (.cells #[.int .i64 x.lv,.int .i64 x.a,.int .i64 x.b,.int .i64 x.c,.int .i64 x.d] 70));have HD0:=Hh (HD.out.gbr (World.grownBy_alloc w (.cells #[.int .i64 x.lv,.int .i64 x.a,.int .i64 x.b,.int .i64 x.c,.int .i64 x.d] 70) none) (by simp));have HNB0:=Hh (show zaX (w.alloc (.cells #[.int .i64 x.lv,.int .i64 x.a,.int .i64 x.b,.int .i64 x.c,.int .i64 x.d] 70)) gx (mix x y 0) by rw[hgx];exact HNB.out);have HVX:=Hh (show v.ownBlock≠some gx from fun e=>by have:=(HO.out.lt gx e).2;omega);have HGX:=Hh (show g≠gx by have:=HD.out.lt.2;omega);have HGW:=Hh hgx;rw[←hgx];generalize hWW:w.alloc _=W at *;clear hWW hgx c1 c2 c3 c4 c5 hec hcd;go_loopw [14,3,4] (fun z1 z2 z3 wr=>∃(q:Nat) (v1:Value) (ds1:List Nat),q≤4∧z1=.int .i64 q∧v1=z2∧z3=.slice (some ⟨g,0,none⟩) (n+1) (n+1)∧OwnN wr base v1 (outK (kT l x) out q)∧OwnD wr base g (n+1) ds1∧Dn l (outK (kT l x) out q) ds1 ∧
     v1.ownBlock≠some g∧v1.ownBlock≠some gx∧(∀k,v1.ownBlock=some k→v.ownBlock=some k∨w.heap.size≤k)∧zaX wr gx (mix x y q)∧Ky (fun k=>k=g∨v.ownBlock=some k) w wr) (fun z1 _ _ _=>4-(intOf z1).toNat)
    case atStart=>exact⟨0,_,ds,by omega,rfl,rfl,rfl,HO0.out,HD0.out,HDN.out,HVG.out,HVX.out,fun k hk=>.inl hk,HNB0.out,HK0.out⟩
    case round =>
     obtain⟨q,v1,ds1,hq,rfl,rfl,rfl,h1,h2,h3,h4,h5,h6,h7,h8⟩:=hrel;have H1:=Hh h1;have H2:=Hh h2;have H3:=Hh h3;have H4:=Hh h4;have H5:=Hh h5;have H6:=Hh h6;have H7:=Hh h7;have H8:=Hh h8;have f1:wr.cell? ⟨gx,0,none⟩=some (.int .i64 x.lv):=h7.at_.1
     have hbs:base≤wr.heap.size:=Nat.le_trans hbase h8.size;by_cases hgo:q<4∧1<x.lv
     ·obtain⟨hq4,hlv⟩:=hgo;have i4:(q:Int)<4:=by omega
      have t2:decide (1<x.lv)=true:=decide_eq_true hlv;have hyc:=h7.at_.kid hq4
      rw[zsx _ _ _ hq4,if_neg (Nat.lt_irrefl _)] at hyc;have hne:x.lv≠1:=by omega
      obtain⟨r,hr,hkT,hkr⟩:=zuG hfx.out hne hq4;have hrp:r≤p:=by
       rcases zaA hne (zai hkf.out hq4) with e|⟨t,e,ht,_⟩
       ·omega
       ·have:=List.length_take_le p l;omega
      have hrlv:0<r→(at_ l (r-1)).lv≤(m:Int):=by
       intro h0;rcases zaA hne (zai hkf.out hq4) with e|⟨t,e,ht,htl⟩
       ·omega
       ·have hle:=List.length_take_le p l;rw[zcM (by omega)] at htl;rw[show r-1=t by omega];omega
      rw[hkr] at hyc;have hstep:outK (kT l x) out (q+1)=(enc (den l r) (outK (kT l x) out q)).1:=by
       show(enc (kT l x q) _).1=_;rw[hkT]
      have hnum:y.kid q=(enc (den l r) (outK (kT l x) out q)).2:=by
       rw[HY.out,zhw _ _ _ hq4];show(enc (kT l x q) _).2=_;rw[hkT]
      have HST:=Hh hstep;have HNU:=Hh hnum;have hNr:=Hh (H8.out.ns HNW.out (fun a ea hp=>by
       cases ea;have hbb:b<base:=HA.out _ rfl;rcases hp with e|e
       ·have:=HG.out;have e2:b=g:=e;omega
       ·have:=(HO.out.lt b e).1;omega))
      have hEr:=Hh (show ∀i,i≤n→wr.cell? ⟨E,i,none⟩=some (.bool (empB l i)) from fun i hi=>H8.out.cell (HCS.out i hi) (fun hp=>by
       rcases hp with e|e
       ·exact HE.out e
       ·exact HVE.out e))
      have hve1:=Hh (show v1.ownBlock≠some E from fun e=>(H6.out E e).elim HVE.out (fun e2=>Nat.not_lt.2 e2 HES.out));have hrn:r≤n:=by rw[←HL.out];exact hr
      have HIQ:=Hh (HIV.out q hq);have HRL:=Hh hrlv;clear h1 h2 h3 h4 h5 h6 h7 h8 hstep hnum hlv hkT hkr hr hrlv hne;go_wp2_with (go_at_call 93;go_loud (refine(ih r _ ds1 v1 _ hrn HRL.out HIQ.out H3.out hNr.out hEr.out H1.out H2.out H4.out hve1.out hbs).mono ?_;rintro e w1 ⟨v2,ds2,rfl,r1,r2,r3,r4,r5,r6⟩;have R1:=Hh r1;have R2:=Hh r2;have R3:=Hh r3;have R4:=Hh r4;have R5:=Hh r5;have R6:=Hh r6;have hbx1:=Hh (H7.out.stay (r6.block gx H7.out.lt (fun hp=>by rcases hp with e|e;exact HGX.out e.symm;exact H5.out e)));clear r1 r2 r3 r4 r5 r6;have fz:=hbx1.out.free (1+q);have cz:=hbx1.out.at_.kid hq4;rw[show 0+1+q=1+q by omega] at cz));go_roundw
      case rel =>
       refine⟨q+1,v2,ds2,by omega,by go_num,rfl,rfl,?_,?_,by rw[HST.out];exact R3.out,R4.out,?_,?_,?_,?_⟩
       ·rw[HST.out];exact R1.out.gbr (zbu _ _ _) (.inr (fun e=>by
         rcases R5.out gx e with e2|e2
         ·exact H5.out e2
         ·exact absurd H7.out.lt (Nat.not_lt.2 e2)))
       ·exact R2.out.gbr (zbu _ _ _) (fun e=>HGX.out (Option.some.inj e).symm)
       ·intro e;rcases R5.out gx e with e2|e2
        ·exact H5.out e2
        ·exact absurd H7.out.lt (Nat.not_lt.2 e2)
       ·intro k hk;rcases R5.out k hk with e2|e2
        ·exact H6.out k e2
        ·exact .inr (Nat.le_trans H8.out.size e2)
       ·exact hbx1.out.setKid hq4 (by omega) HNU.out.symm
       ·refine(H8.out.trans R6.out (fun k hk hp=>?_)).set _ (fun h=>?_) _
        ·rcases hp with e|e
         ·exact .inl e
         ·rcases H6.out k e with e2|e2
          ·exact .inr e2
          ·omega
        ·exact absurd (show gx<w.heap.size from h) (by rw[HGW.out];exact Nat.lt_irrefl _)
      case measure=>simp[intOf];omega
     ·have hfin:mix x y q=y∧outK (kT l x) out q=outK (kT l x) out 4:=by
       by_cases h4:q=4
       ·subst h4;exact⟨zhE (by rw[HY.out];rfl),rfl⟩
       ·have h1:x.lv=1:=by omega
        refine⟨?_,by rw[HK1.out h1,HK1.out h1]⟩;rw[HT1.out h1];exact zqs x q
      have hpre4:=HPRE.out 4 (Nat.le_refl _);have hinv4:=HIV.out 4 (Nat.le_refl _);rw[hfin.1] at h7;rw[hfin.2] at h1 h3;have hv2:=HV2.out;obtain⟨o4,ho4⟩:∃o4,o4=outK (kT l x) out 4:=⟨_,rfl⟩;rw[←ho4] at h1 h3 hpre4 hinv4 hv2;obtain⟨A1,cc1,hv1,hn1,hA1,hB1⟩:=h1.shape;have ho4l:=hinv4.len;rw[HL.out] at ho4l;obtain⟨on,hon⟩:∃on,on=o4.length:=⟨_,rfl⟩;rw[←hon] at hv1 ho4l;subst hv1;have HON:=Hh hon;have Q1:=Hh h1;have Q2:=Hh h2;have Q3:=Hh h3;have Q7:=Hh h7;have QN:=Hh hn1;have QV:=Hh hv2;have QP:=Hh hpre4;clear f1;obtain⟨f1,f2,f3,f4,f5⟩:=h7.at_
      have hylv:y.lv=x.lv:=by rw[HY.out];rfl
      have HYL:=Hh hylv;have hcase:(q<4∧¬ 1<x.lv)∨¬ q<4:=by omega
      have hoc:=hn1.cap;clear h1 h2 h3 h4 h5 h6 h7 h8 hn1 hA1 hB1 hfin hpre4 hinv4 hv2 ho4 hon hylv hgo H1 H2 H3 H7;rcases zdR o4 y with⟨hf,_⟩|⟨fi,_,_,hf⟩
      ·have HF:=Hh hf;have HAD:=Hh (zqq hf);clear hf;rcases hcase with⟨hq4,hlv⟩|hq4
       ·have i4:(q:Int)<4:=by omega
        have t2:decide (1<y.lv)=false:=decide_eq_false (by rw[HYL.out];exact hlv);clear hlv;go_wp2_with (first
         | (go_at_call 142;go_loud (refine(zdX _ _ on o4 y _ QN.out HON.out.symm HWY.out).mono ?_;rintro e w5 ⟨rfl,b5⟩;have B5:=Hh b5;obtain⟨d1,d2,d3,d4,d5⟩:=Q7.out.at_.below (b5.block gx Q7.out.lt);rw[HF.out];have R2:=Hh (Q2.out.gbr (row:=Option.none) ⟨b5.os,b5.tape,b5.output,b5.size,fun i hi _=>b5.block i hi⟩ (by simp));have R1:=Hh (Q1.out.stays b5);clear b5))
         | (at_builtin;go_loud (refine zap _ rfl _ _ rfl base _ o4 [y] _ 1 1 rfl rfl (R1.out.alloc _) (zhD _ _ y HWY.out rfl) rfl (fun e=>by cases e) (by rw[←HON.out];omega) (by simp;have:=B5.out.size;omega) ?_;intro v6 w6 ho6 hg6 hk6;obtain⟨A6,c6,hv6,-,-,-⟩:=ho6.shape;have HO6:=Hh ho6;have HG6:=Hh (show World.grownBy _ w6 (Value.slice A1 on cc1).ownBlock from hg6);have HK6:=Hh (show v6.ownBlock=(Value.slice A1 on cc1).ownBlock∨v6.ownBlock=some (w5.alloc _).heap.size from hk6);have R6:=Hh ((R2.out.gbr (World.grownBy_alloc w5 _ Option.none) (by simp)).gbr hg6 H4.out);have cz:=R6.out.cell (k:=p+1) (by omega);have fz:=R6.out.free (p+1);subst hv6;clear ho6 hg6 hk6)))
        go_ret3;rw[HR.out];have hws:w.heap.size≤w5.heap.size:=Nat.le_trans H8.out.size B5.out.size;have hgl:=R2.out.lt.2;have hky:=((H8.out.below B5.out).alloc _).gb HG6.out (fun i hi e=>(H6.out i e).elim .inr (fun e2=>by omega));refine cast ?_ (zhF (k:=o4.length+1) HSP.out QV.out HAD.out (List.prefix_append _ _) HO6.out R6.out Q3.out ?_ ?_ hky)
        ·simp
        ·intro e;rcases HK6.out with e2|e2
         ·exact H4.out (e2.symm.trans e)
         ·rw[e2] at e;simp at e;omega
        ·intro k hk;rcases HK6.out with e2|e2
         ·exact H6.out k (e2.symm.trans hk)
         ·rw[e2] at hk;simp at hk;exact .inr (by omega)
       ·obtain rfl:q=4:=by omega
        clear hq4 hq;go_wp2_with (first
         | (go_at_call 142;go_loud (refine(zdX _ _ on o4 y _ QN.out HON.out.symm HWY.out).mono ?_;rintro e w5 ⟨rfl,b5⟩;have B5:=Hh b5;obtain⟨d1,d2,d3,d4,d5⟩:=Q7.out.at_.below (b5.block gx Q7.out.lt);rw[HF.out];have R2:=Hh (Q2.out.gbr (row:=Option.none) ⟨b5.os,b5.tape,b5.output,b5.size,fun i hi _=>b5.block i hi⟩ (by simp));have R1:=Hh (Q1.out.stays b5);clear b5))
         | (at_builtin;go_loud (refine zap _ rfl _ _ rfl base _ o4 [y] _ 1 1 rfl rfl (R1.out.alloc _) (zhD _ _ y HWY.out rfl) rfl (fun e=>by cases e) (by rw[←HON.out];omega) (by simp;have:=B5.out.size;omega) ?_;intro v6 w6 ho6 hg6 hk6;obtain⟨A6,c6,hv6,-,-,-⟩:=ho6.shape;have HO6:=Hh ho6;have HG6:=Hh (show World.grownBy _ w6 (Value.slice A1 on cc1).ownBlock from hg6);have HK6:=Hh (show v6.ownBlock=(Value.slice A1 on cc1).ownBlock∨v6.ownBlock=some (w5.alloc _).heap.size from hk6);have R6:=Hh ((R2.out.gbr (World.grownBy_alloc w5 _ Option.none) (by simp)).gbr hg6 H4.out);have cz:=R6.out.cell (k:=p+1) (by omega);have fz:=R6.out.free (p+1);subst hv6;clear ho6 hg6 hk6)))
        go_ret3;rw[HR.out];have hws:w.heap.size≤w5.heap.size:=Nat.le_trans H8.out.size B5.out.size;have hgl:=R2.out.lt.2;have hky:=((H8.out.below B5.out).alloc _).gb HG6.out (fun i hi e=>(H6.out i e).elim .inr (fun e2=>by omega));refine cast ?_ (zhF (k:=o4.length+1) HSP.out QV.out HAD.out (List.prefix_append _ _) HO6.out R6.out Q3.out ?_ ?_ hky)
        ·simp
        ·intro e;rcases HK6.out with e2|e2
         ·exact H4.out (e2.symm.trans e)
         ·rw[e2] at e;simp at e;omega
        ·intro k hk;rcases HK6.out with e2|e2
         ·exact H6.out k (e2.symm.trans hk)
         ·rw[e2] at hk;simp at hk;exact .inr (by omega)
      ·have HF:=Hh hf;have HAD:=Hh (zqr hf);clear hf;have t3:((fi:Int)+1==0)=false:=beq_eq_false_iff_ne.2 (by omega);have t4:(((fi+1:Nat):Int)==0)=false:=beq_eq_false_iff_ne.2 (by omega);rcases hcase with⟨hq4,hlv⟩|hq4
       ·have i4:(q:Int)<4:=by omega
        have t2:decide (1<y.lv)=false:=decide_eq_false (by rw[HYL.out];exact hlv);clear hlv;go_wp2_with (first
         | (go_at_call 142;go_loud (refine(zdX _ _ on o4 y _ QN.out HON.out.symm HWY.out).mono ?_;rintro e w5 ⟨rfl,b5⟩;have B5:=Hh b5;rw[HF.out];have R2:=Hh (Q2.out.gbr (row:=Option.none) ⟨b5.os,b5.tape,b5.output,b5.size,fun i hi _=>b5.block i hi⟩ (by simp));have R1:=Hh (Q1.out.stays b5);have cz:=R2.out.cell (k:=p+1) (by omega);have fz:=R2.out.free (p+1);clear b5)))
        go_ret3;rw[HR.out];refine cast ?_ (zhF (k:=fi+1) HSP.out QV.out HAD.out (List.prefix_refl _) R1.out R2.out Q3.out H4.out ?_ (H8.out.below B5.out))
        ·simp
        ·exact H6.out
       ·obtain rfl:q=4:=by omega
        clear hq4 hq;go_wp2_with (first
         | (go_at_call 142;go_loud (refine(zdX _ _ on o4 y _ QN.out HON.out.symm HWY.out).mono ?_;rintro e w5 ⟨rfl,b5⟩;have B5:=Hh b5;rw[HF.out];have R2:=Hh (Q2.out.gbr (row:=Option.none) ⟨b5.os,b5.tape,b5.output,b5.size,fun i hi _=>b5.block i hi⟩ (by simp));have R1:=Hh (Q1.out.stays b5);have cz:=R2.out.cell (k:=p+1) (by omega);have fz:=R2.out.free (p+1);clear b5)))
        go_ret3;rw[HR.out];refine cast ?_ (zhF (k:=fi+1) HSP.out QV.out HAD.out (List.prefix_refl _) R1.out R2.out Q3.out H4.out ?_ (H8.out.below B5.out))
        ·simp
        ·exact H6.out
end Go.Proofs.YtfjajpnfjjdnpaaGreatDoor
