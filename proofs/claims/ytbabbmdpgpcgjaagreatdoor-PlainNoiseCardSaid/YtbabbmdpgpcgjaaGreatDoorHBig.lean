import Derived.Test.YtbabbmdpgpcgjaaGreatDoorHRSub
import Derived.RegionTactic
import Derived.BigRegion

set_option linter.unusedVariables false
set_option linter.unusedSimpArgs false
set_option maxRecDepth 100000
set_option maxHeartbeats 6400000
namespace Go.Proofs.YtbabbmdpgpcgjaaGreatDoor
open Go.RowKit Num
theorem znW {P:Program}(w:World)(t ty:TypeId)
  (base:Nat) (e:TypeId) (i:TypeInfo) (z:Value) (bytes:Nat) (ht:P.underlying t=some (.slice e)) (hi:P.info? e=some i) (hz:i.zero=some z)
  (hsize:i.size=1) (hby:i.bytes=bytes) (hzs:z.cells.size=1)
  (v:Value) (n:Nat) (xs:List Value) (hown:w.ownsRow base e 1 v n xs)
  (A:Option Addr) (m c:Nat) (news:List Value) (hr:Rd w A c news) (hm:m=news.length) (h1:∀u∈news,u.oneCell'=true)
  (h63:n+m≤maxLen) (hbytes:(n+m)*bytes≤140737488355328) (hbase:base≤w.heap.size) :
  ∃v' w',(Builtin.append_ #[t,t] ty #[v,.slice A m c]).run P w=.ok v' w'∧w'.ownsRow base e 1 v' (n+m) (xs++news)∧w.grownBy w' v.ownBlock∧(v'.ownBlock=v.ownBlock∨v'.ownBlock=some w.heap.size):=by
 subst hm;cases A with
 | none =>
  have hn:news=[]:=by
   cases news with
   | nil=>rfl
   | cons u r=>obtain⟨b,off,he,_⟩:=hr.2.2 (by simp);cases he
  subst hn;refine⟨v,w,?_,by simpa using hown,World.grownBy.refl w _,.inl rfl⟩;rcases hown.2 with⟨rfl,rfl⟩|⟨g,cap,cur,rfl,_,_,hnc,_⟩
  ·simp[Builtin.append_,run_underlying ht,sizeOf,typeInfo,hi,Builtin.lenOf,Builtin.firstCells]
  ·simp[Builtin.append_,run_underlying ht,sizeOf,typeInfo,hi,Builtin.lenOf,Builtin.firstCells,hnc,storeCells]
 | some ad =>
  have hcells:∀j u,news[j]?=some u→w.cell? (ad.add j)=some u:=by
   intro j u hu;obtain⟨b,off,he,_,hc⟩:=hr.2.2 (by rcases List.getElem?_eq_some_iff.1 hu with⟨hlt,_⟩;omega);cases he;rw[show(⟨b,off,none⟩:Addr).add j=⟨b,off+j,none⟩ from by unfold Addr.add;split <;> simp_all];exact hc j u hu
  obtain⟨v',w',hrun,h2,h3,_,h5⟩:=run_append_own_at (P:=P) w base t ty e i z 1 bytes ht hi hz hsize hby hzs (by decide) v n xs hown ad news.length c news (by omega) hcells h1 h63 hbytes hbase;exact⟨v',w',hrun,h2,h3,h5⟩
theorem zhR {P:Program}{w:World}{o:Oper}{a:Act}{K:Act→World→Prop}{Q:Exit→Act→World→Prop}(s x:Operand)(t:TypeId)
  (ho:o.op=.call { callee:=.builtin .append,args:=#[s,x],argTypes:=#[t,t] })
  (base:Nat) (e:TypeId) (i:TypeInfo) (z:Value) (bytes:Nat) (ht:P.underlying t=some (.slice e)) (hi:P.info? e=some i) (hz:i.zero=some z)
  (hsize:i.size=1) (hby:i.bytes=bytes) (hzs:z.cells.size=1)
  (v:Value) (n:Nat) (xs:List Value) (hs:a.eval s=v) (hown:w.ownsRow base e 1 v n xs)
  (A:Option Addr) (m c:Nat) (news:List Value) (hx:a.eval x=.slice A m c) (hr:Rd w A c news) (hm:m=news.length) (h1:∀u∈news,u.oneCell'=true)
  (h63:n+m≤maxLen) (hbytes:(n+m)*bytes≤140737488355328) (hbase:base≤w.heap.size)
  (h:∀v' w',w'.ownsRow base e 1 v' (n+m) (xs++news)→w.grownBy w' v.ownBlock→(v'.ownBlock=v.ownBlock∨v'.ownBlock=some w.heap.size)→K (a.put o.dst v') w'):Oper.wp P o a w K Q:=by
 obtain⟨v',w',hrun,h2,h3,h4⟩:=znW (P:=P) w t o.type base e i z bytes ht hi hz hsize hby hzs v n xs hown A m c news hr hm h1 h63 hbytes hbase;unfold Oper.wp execOp;simp only[ho,resolve,invoke,builtin,Sem.run_bind,Sem.run_pure,Result.andThen_ok,List.map_toArray,List.map_cons,List.map_nil,hs,hx,hrun];exact h v' w' h2 h3 h4
theorem zbo {P:Program}{w:World}{o:Oper}{a:Act}{K:Act→World→Prop}{Q:Exit→Act→World→Prop}
  (l c:Operand) (t:TypeId) (hop:o.op=Op.makeSlice t l c)
  (base:Nat) (e:TypeId) (i:TypeInfo) (z:Value) (size:Nat) (h1:P.underlying t=some (.slice e)) (h2:P.info? e=some i) (h3:i.zero=some z) (h4:i.size=size)
  (kl kc:IntKind) (L C:Int) (n:Nat) (hl:a.eval l=.int kl L) (hc:a.eval c=.int kc C) (hL:L=(n:Int)) (hC:C=(n:Int)) (b2:i.bytes*n≤281474976710656) (b3:n≤maxLen) (b4:base≤w.heap.size)
  (hK:∀w',w'.ownsRow base e size (.slice (some ⟨w.heap.size,0,none⟩) n n) n (madeCells z.cells (n*size)).toList→w.grownBy w' none→K (a.put o.dst (.slice (some ⟨w.heap.size,0,none⟩) n n)) w') :
  Oper.wp P o a w K Q:=by
 obtain⟨w',hrun,r1,r2⟩:=run_make_full (P:=P) w base t e i z size h1 h2 h3 h4 kl kc n b2 b3 b4;subst hL;subst hC;unfold Oper.wp;simp[execOp,hop,hl,hc,hrun,Result.andThen];exact hK w' r1 r2
theorem zif (n:Nat):(madeCells (Value.cells (.bool false)) (n*1)).toList=(List.replicate n false).map Value.bool:=by
 rw[Nat.mul_one];refine List.ext_getElem (by simp[madeCells]) fun i h1 h2=>?_;simp[madeCells,Value.cells,Nat.mod_one]
theorem zsN (A:Option Addr)(c:Nat)(xs:List Nat)(k:Nat)(w:World)(h:Us w A c xs)(hl:xs.length≤1000000)(hk:k≤10000) :
  Calls Tryz.prog 155 #[.slice A xs.length c,.int .i64 (k:Int)] w (RetU (val xs*2^k) w):=by
 obtain⟨i0,hi,hz0,hz1,hz2⟩:=info_parts Tryz.infoB;have HH:=Hh h;have hd:=h.1;have HI:=Hh (And.intro hi (And.intro hz0 (And.intro hz1 hz2)));clear h hi hz0 hz1 hz2;go_enter Tryz.func155,Tryz.ntmps155;go_wp2_with fail;refine zcc ?_;refine wp_region_held (S:=fun _=>True) (by kernel_rfl) ?_;refine wpAnyH_take (i:=0) (v:=.int .i64 (k:Int)) rfl (by kernel_rfl) (by kernel_rfl) (by kernel_rfl) (fun _ _ _ h=>h) (Or.inl ⟨by rfl,?_⟩) trivial ?_
 ·rintro w' -;go_simp
 simp only[Act.put,List.setIfInBounds_toArray,List.set_cons_zero,List.set_cons_succ];refine wpAnyH_take (i:=2) (v:=.slice A xs.length c) rfl (by kernel_rfl) (by kernel_rfl) (by kernel_rfl) (fun _ _ _ h=>h) (Or.inl ⟨by rfl,?_⟩) trivial ?_
 ·rintro w' -;go_simp
 simp only[Act.put,List.setIfInBounds_toArray,List.set_cons_zero,List.set_cons_succ];obtain⟨w0,hw0⟩:∃w0:World,w0={ w with drawn:=w.drawn+1 }:=⟨_,rfl⟩;have hb0:Below w.heap.size w w0:=by rw[hw0];exact zac (Below.refl _ w) 1
 have hs0:w.heap.size≤w0.heap.size:=hb0.size;rw[←hw0];clear hw0;have hu0:=HH.out.below hb0;refine Rd2 1 3 (fun K hK=>?_) fun K hK=>?_;rw[if_pos (by rfl)];refine zbo (.tmp 11) (.tmp 11) 163 rfl w.heap.size 4 i0 _ 1 Tryz.underlying163 HI.out.1 HI.out.2.1 HI.out.2.2.1 .i64 .i64 _ _ k rfl rfl rfl rfl (by rw[HI.out.2.2.2];omega) (by simp only[maxLen];omega) (by omega) ?_;intro w1 own1 grow1;simp only[Act.put,List.setIfInBounds_toArray,List.set_cons_zero,List.set_cons_succ];refine hK.out _ _ trivial (fun _=>?_);clear hK K;refine Rd1 3 fun K hK=>?_;go_simp;have hb1:Below w.heap.size w w1:=hb0.grown grow1 (by omega) (fun k hk=>by cases hk);have hu1:=HH.out.below hb1;refine(zcd A c xs _ hu1 hl).mono ?_;rintro e w2 ⟨A1,c1,bs,rfl,q2,k1,v1,b2⟩;dsimp only;refine hK.out _ _ trivial (fun _=>?_);clear hK K;have own2:=zdc own1 b2;rw[zif] at own2;have hb2:Below w.heap.size w w2:=hb1.trans (b2.mono hb1.size);have hgb:w.heap.size≤w0.heap.size:=by omega
 clear grow1 hs0;generalize hgg:w0.heap.size=g at own2 hgb ⊢;clear hgg;rotate_left;go_simp;refine(zcd A c xs _ hu0 hl).mono ?_;rintro e w1 ⟨A1,c1,bs,rfl,q1,k1,v1,b1⟩;dsimp only;refine hK.out _ _ trivial (fun _=>?_);clear hK K;have hb1:Below w.heap.size w w1:=hb0.trans (b1.mono hb0.size);have hs1:=hb1.size;refine Rd1 1 fun K hK=>?_;rw[if_pos (by rfl)];refine zbo (.tmp 11) (.tmp 11) 163 rfl w.heap.size 4 i0 _ 1 Tryz.underlying163 HI.out.1 HI.out.2.1 HI.out.2.2.1 .i64 .i64 _ _ k rfl rfl rfl rfl (by rw[HI.out.2.2.2];omega) (by simp only[maxLen];omega) (by omega) ?_;intro w2 own2 grow2;simp only[Act.put,List.setIfInBounds_toArray,List.set_cons_zero,List.set_cons_succ];refine hK.out _ _ trivial (fun _=>?_);clear hK K;rw[zif] at own2;have hb2:Below w.heap.size w w2:=hb1.grown grow2 (by omega) (fun k hk=>by cases hk);have q2:Bl w2 A1 c1 bs:=Bl.below q1 ((Below.refl _ w1).grown grow2 (Nat.le_refl _) (fun k hk=>by cases hk));have hgb:w.heap.size≤w1.heap.size:=by omega
 clear grow2 hs0;generalize hgg:w1.heap.size=g at own2 hgb ⊢;clear hgg
 all_goals
  have hbl:=zcy hd k1 v1;refine Rd1 4 fun K hK=>?_;rw[if_pos (by rfl)];refine zhR (.tmp 12) (.tmp 14) 163 rfl w.heap.size 4 i0 _ 1 Tryz.underlying163 HI.out.1 HI.out.2.1 HI.out.2.2.1 HI.out.2.2.2 rfl (.slice (some ⟨g,0,none⟩) k k) k _ rfl own2 A1 bs.length c1 (bs.map Value.bool) rfl q2 (by simp) (zsI _) (by simp only[maxLen];omega) (by omega) hb2.size ?_;intro v3 w3 own3 grow3 at3;obtain⟨A3,c3,rfl⟩:=zcm own3;simp only[Act.put,List.setIfInBounds_toArray,List.set_cons_zero,List.set_cons_succ];refine hK.out _ _ trivial (fun _=>?_);clear hK K;have hb3:Below w.heap.size w w3:=hb2.grown grow3 hb2.size (fun k hk=>by cases hk;omega);have q3:Bl w3 A3 c3 (List.replicate k false++bs):=by
   unfold Bl;rw[List.map_append];exact Rd.own own3
  have hv3:bval (List.replicate k false++bs)=val xs*2^k:=by
   rw[zbq,znQ,List.length_replicate,v1,Nat.zero_add,Nat.mul_comm]
  refine Rd1 5 fun K hK=>?_;go_simp;refine(zyF q3 (by simp) (by omega)).mono ?_;rintro e w4 ⟨A4,c4,rs,rfl,q4,k4,v4,b4⟩;dsimp only;refine hK.out _ _ trivial (fun _=>?_);clear hK K;refine Rd1 6 fun K hK=>?_;go_simp;refine hK.out _ _ trivial (fun _=>?_);clear hK K;refine wpAnyH_done (by kernel_rfl) ?_ _;unfold zcO;go_wp2_with fail;go_ret;exact⟨A4,c4,rs,rfl,q4,k4,v4.trans hv3,hb3.trans (b4.mono hb3.size)⟩
theorem zvM (A:Option Addr)(c n:Nat)(k:Int)(w:World)(hk:k<0∨10000<k) :
  Calls Tryz.prog 155 #[.slice A n c,.int .i64 k] w (RetU 0 w):=by
 go_enter Tryz.func155,Tryz.ntmps155;rcases hk with hk|hk
 ·go_wp2;go_ret;exact⟨none,0,[],rfl,Us.nil _,zbe,rfl,Below.refl _ _⟩
 ·go_wp2;go_ret;exact⟨none,0,[],rfl,Us.nil _,zbe,rfl,Below.refl _ _⟩
def shlN (x:Nat)(n:Int):Nat:=if 0≤n∧n≤10000 then x*2^n.toNat else 0
theorem zyG (A:Option Addr)(c:Nat)(xs:List Nat)(n:Int)(w:World)(h:Us w A c xs)(hl:xs.length≤100000) :
  Calls Tryz.prog 173 #[.slice A xs.length c,.int .i64 n] w (RetU (shlN (val xs) n) w):=by
 unfold shlN;by_cases hn:0≤n∧n≤10000
 ·rw[if_pos hn];obtain⟨k,rfl⟩:∃k:Nat,n=(k:Int):=⟨n.toNat,by omega⟩;exact zvG A c xs k w h hl (by omega)
 ·rw[if_neg hn];exact zxw A c xs.length n w (by omega)
theorem zxx (A:Option Addr)(c:Nat)(xs:List Nat)(n:Int)(w:World)(h:Us w A c xs)(hl:xs.length≤100000) :
  Calls Tryz.prog 155 #[.slice A xs.length c,.int .i64 n] w (RetU (shlN (val xs) n) w):=by
 unfold shlN;by_cases hn:0≤n∧n≤10000
 ·rw[if_pos hn];obtain⟨k,rfl⟩:∃k:Nat,n=(k:Int):=⟨n.toNat,by omega⟩;exact zsN A c xs k w h (by omega) (by omega)
 ·rw[if_neg hn];exact zvM A c xs.length n w (by omega)
theorem zuZ (m:Nat):(4294967296:Nat)^m=2^(32*m):=by
 rw[Nat.pow_mul]
theorem zvN (W:World)(u v:Nat)(t:TypeId)(hu:u<4294967296)(hv:v<4294967296):Us (W.alloc (.cells #[.int .u32 (u:Int),.int .u32 (v:Int)] t)) (some ⟨W.heap.size,0,none⟩) 2 [u,v]:=by
 refine⟨Dig.cons hu (Dig.cons hv Dig.nil),by simp,by simp[maxLen],fun _=>⟨_,0,rfl,by simp,fun j x hx=>?_⟩⟩;have h:=heap_alloc_new W (.cells #[.int .u32 (u:Int),.int .u32 (v:Int)] t);rw[cell_of_row _ _ _ _ _ _ h];simp only[Nat.zero_add,List.map_cons,List.map_nil,List.getElem?_toArray] at hx ⊢;exact hx
def ival (s:Bool)(xs:List Nat):Int:=if s then -(val xs:Int) else val xs
def zaC (s:Bool)(xs:List Nat):Prop:=zaS xs∧(s=true→xs≠[])
def RetI (n:Int)(w:World)(e:Ending)(w':World):Prop :=
 ∃A c s rs,e=.returned (.agg #[.bool s,.slice A rs.length c])∧Us w' A c rs∧zaC s rs∧ival s rs=n∧Below w.heap.size w w'
theorem zfZ (s:Bool):ival s []=0:=by cases s <;> rfl
theorem zkf {xs:List Nat}(hc:zaS xs)(s:Bool):zaC (s&&decide (0<xs.length)) xs:=⟨hc,fun h=>by
 intro e;subst e;simp at h⟩
theorem zpI (xs:List Nat)(s:Bool):ival (s&&decide (0<xs.length)) xs=ival s xs:=by
 cases xs with
 | nil=>rw[zfZ,zfZ]
 | cons x r=>simp
theorem zbJ (s:Bool)(A:Option Addr)(c:Nat)(xs:List Nat)(w:World)(h:Us w A c xs)(hc:zaS xs) :
  Calls Tryz.prog 170 #[.bool s,.slice A xs.length c] w (RetI (ival s xs) w):=by
 have hcap:=h.cap;have hk:=zkf hc s;have hv:=zpI xs s;have H:=Hh (And.intro hk hv);clear hk hv;go_enter Tryz.func170,Tryz.ntmps170;cases s
 ·go_wp2;refine bodyPost_ret (v:=.agg #[.bool false,.slice A xs.length c]) (by simp[results,Tryz.results170,go_sem]) rfl ⟨A,c,_,xs,rfl,h.below (Below.alloc (Below.refl _ _) (Nat.le_refl _) _),H.out.1,H.out.2,Below.alloc (Below.refl _ _) (Nat.le_refl _) _⟩
 ·go_wp2;refine bodyPost_ret (v:=.agg #[.bool (decide (0<xs.length)),.slice A xs.length c]) (by simp[results,Tryz.results170,go_sem]) rfl ⟨A,c,decide (0<xs.length),xs,rfl,h.below (Below.alloc (Below.refl _ _) (Nat.le_refl _) _),by simpa using H.out.1,by simpa using H.out.2,Below.alloc (Below.refl _ _) (Nat.le_refl _) _⟩
def Box (w:World)(g:Nat)(x y:Value):Prop :=
 w.cell? ⟨g,0,none⟩=some x∧w.cell? ⟨g,1,none⟩=some y∧w.frozen? ⟨g,0,none⟩=false∧w.frozen? ⟨g,1,none⟩=false∧g<w.heap.size
theorem Box.new (w:World)(x y:Value)(t:TypeId):Box (w.alloc (.cells #[x,y] t)) w.heap.size x y:=by
 have h:=heap_alloc_new w (.cells #[x,y] t);exact⟨by rw[cell_of_row _ _ _ _ _ _ h];rfl,by rw[cell_of_row _ _ _ _ _ _ h];rfl,frozen_of_row _ _ _ _ _ h,frozen_of_row _ _ _ _ _ h,by simp⟩
theorem Box.below {w w':World}{g:Nat}{x y:Value}(h:Box w g x y)(b:Below w.heap.size w w'):Box w' g x y :=
 ⟨(b.cell (p:=⟨g,0,none⟩) h.2.2.2.2).trans h.1,(b.cell (p:=⟨g,1,none⟩) h.2.2.2.2).trans h.2.1,(b.frozen (p:=⟨g,0,none⟩) h.2.2.2.2).trans h.2.2.1,(b.frozen (p:=⟨g,1,none⟩) h.2.2.2.2).trans h.2.2.2.1,Nat.lt_of_lt_of_le h.2.2.2.2 b.size⟩
theorem Box.alloc {w:World}{g:Nat}{x y:Value}(h:Box w g x y)(o:Obj):Box (w.alloc o) g x y:=h.below ((Below.refl _ w).alloc (Nat.le_refl _) o)
theorem Box.set {w:World}{g:Nat}{x y:Value}(h:Box w g x y)(x' y':Value):Box ((w.setCell ⟨g,0,none⟩ x').setCell ⟨g,1,none⟩ y') g x' y':=by
 obtain⟨h1,h2,h3,h4,h5⟩:=h;have e1:(w.setCell ⟨g,0,none⟩ x').cell? ⟨g,0,none⟩=some x':=World.cell?_setCell_same' _ _ _ (by rw[h1];rfl);have e2:(w.setCell ⟨g,0,none⟩ x').cell? ⟨g,1,none⟩=some y:=by rw[World.cell?_setCell_other _ _ _ _ (by simp)];exact h2
 refine⟨?_,World.cell?_setCell_same' _ _ _ (by rw[e2];rfl),?_,?_,?_⟩
 ·rw[World.cell?_setCell_other _ _ _ _ (by simp)];exact e1
 ·rw[World.frozen?_setCell,World.frozen?_setCell];exact h3
 ·rw[World.frozen?_setCell,World.frozen?_setCell];exact h4
 ·simpa using h5
theorem Us.over {w:World}{A:Option Addr}{c:Nat}{xs:List Nat}(h:Us w A c xs){g o:Nat}{v0:Value}(hc:w.cell? ⟨g,o,none⟩=some v0)(hv:∀n,v0≠.int .u32 n)(v:Value):Us (w.setCell ⟨g,o,none⟩ v) A c xs:=by
 refine⟨h.1,h.2.1,h.2.2.1,fun hn=>?_⟩;obtain⟨b,off,e,hb,hr⟩:=h.2.2.2 hn;refine⟨b,off,e,by simpa using hb,fun j u hu=>?_⟩;have hj:=hr j u hu;rw[World.cell?_setCell_other]
 ·exact hj
 ·intro e2;rw[←e2,hc] at hj;cases hj;rw[List.getElem?_map] at hu;obtain⟨n,_,hn'⟩:=Option.map_eq_some_iff.1 hu;exact hv _ hn'.symm
theorem Us.boxed {w:World}{A:Option Addr}{c:Nat}{xs:List Nat}(h:Us w A c xs){g:Nat}{s:Bool}{A0:Option Addr}{n0 c0:Nat}(hb:Box w g (.bool s) (.slice A0 n0 c0))(x y:Value) :
  Us ((w.setCell ⟨g,0,none⟩ x).setCell ⟨g,1,none⟩ y) A c xs:=by
 refine(h.over hb.1 (by simp) x).over (v0:=.slice A0 n0 c0) ?_ (by simp) y;rw[World.cell?_setCell_other _ _ _ _ (by simp)];exact hb.2.1
theorem RetI.box {w w1:World}{g:Nat}{A A0:Option Addr}{c n0 c0:Nat}{s s0:Bool}{rs:List Nat}{n:Int}(hg:w.heap.size≤g)(hb:Box w1 g (.bool s0) (.slice A0 n0 c0))(q:Us w1 A c rs)(k:zaC s rs)(v:ival s rs=n)(b:Below w.heap.size w w1) :
  RetI n w (.returned (.agg #[.bool s,.slice A rs.length c])) ((w1.setCell ⟨g,0,none⟩ (.bool s)).setCell ⟨g,1,none⟩ (.slice A rs.length c)) :=
 ⟨A,c,s,rs,rfl,q.boxed hb _ _,k,v,(b.setCell (p:=⟨g,0,none⟩) hg _).setCell (p:=⟨g,1,none⟩) hg _⟩
theorem zco (s:Bool)(A:Option Addr)(c:Nat)(xs:List Nat)(w:World)(h:Us w A c xs)(hl:xs.length≤100000) :
  Calls Tryz.prog 82 #[.bool s,.slice A xs.length c] w (RetI (ival s xs) w):=by
 have hcap:=h.cap;have b0:=Hh ((Below.refl w.heap.size w).alloc (Nat.le_refl _) (.cells #[.bool false,.slice none 0 0] 69));have H1:=Hh h;clear h;go_enter Tryz.func82,Tryz.ntmps82;cases s
 all_goals
  go_wp2_with (go_at_call 114;refine(zpF _ _ xs _ (H1.out.below b0.out) (by omega)).mono ?_;rintro e w1 ⟨A1,c1,r1,rfl,q,k1,v1,b⟩;have hcap1:=q.cap;obtain⟨x1,x2,x3,x4,x5⟩:=(Box.new w _ _ _).below b;have HQ:=Hh (And.intro q (And.intro k1 (And.intro v1 b)));clear q k1 v1 b)
 all_goals
  have HB:=(Box.new w (.bool false) (.slice none 0 0) 69).below HQ.out.2.2.2;have hw1:Below w.heap.size w w1:=b0.out.trans (HQ.out.2.2.2.mono (by simp));clear x1 x2 x3 x4 x5
 ·obtain⟨e1,e2,_,_,_⟩:=HB.set (.bool false) (.slice A1 r1.length c1);refine bodyPost_ret (v:=.agg #[.bool false,.slice A1 r1.length c1]) (by simp[results,Tryz.results82,go_sem,e1,e2]) rfl ?_;exact RetI.box (Nat.le_refl _) HB HQ.out.1 ⟨HQ.out.2.1,by simp⟩ (by unfold ival;simp[HQ.out.2.2.1]) hw1
 ·obtain⟨e1,e2,_,_,_⟩:=HB.set (.bool (decide (0<r1.length))) (.slice A1 r1.length c1);refine bodyPost_ret (v:=.agg #[.bool (decide (0<r1.length)),.slice A1 r1.length c1]) (by simp[results,Tryz.results82,go_sem,e1,e2]) rfl ?_;refine RetI.box (Nat.le_refl _) HB HQ.out.1 (by simpa using zkf HQ.out.2.1 true) ?_ hw1;have:=zpI r1 true;simp only[Bool.true_and] at this;rw[this];unfold ival;simp[HQ.out.2.2.1]
theorem Below.drew' {B:Nat}{w w':World}(h:Below B w w'):Below B w w'.drew:=zac h 1
theorem Box.drew {w:World}{g:Nat}{x y:Value}(h:Box w g x y):Box w.drew g x y:=h.below (Below.drew' (Below.refl _ w))
theorem box1 (w:World)(x y:Value)(t:TypeId):Box (w.alloc (.cells #[x,y] t)) w.heap.size x y∧Below w.heap.size w (w.alloc (.cells #[x,y] t)):=⟨Box.new w x y t,(Below.refl _ w).alloc (Nat.le_refl _) _⟩
theorem box2 (w:World)(x y x' y':Value)(t:TypeId):Box ((w.alloc (.cells #[x,y] t)).alloc (.cells #[x',y'] t)) w.heap.size x y∧Box ((w.alloc (.cells #[x,y] t)).alloc (.cells #[x',y'] t)) (w.heap.size+1) x' y'∧Below w.heap.size w ((w.alloc (.cells #[x,y] t)).alloc (.cells #[x',y'] t)):=by
 refine⟨(Box.new w x y t).alloc _,?_,(box1 w x y t).2.alloc (by simp) _⟩;have h:=Box.new (w.alloc (.cells #[x,y] t)) x' y' t;simpa using h
theorem box3 (w:World)(x y x' y' x2 y2:Value)(t:TypeId):Box (((w.alloc (.cells #[x,y] t)).alloc (.cells #[x',y'] t)).alloc (.cells #[x2,y2] t)) w.heap.size x y∧Box (((w.alloc (.cells #[x,y] t)).alloc (.cells #[x',y'] t)).alloc (.cells #[x2,y2] t)) (w.heap.size+1) x' y'∧Box (((w.alloc (.cells #[x,y] t)).alloc (.cells #[x',y'] t)).alloc (.cells #[x2,y2] t)) (w.heap.size+1+1) x2 y2∧Below w.heap.size w (((w.alloc (.cells #[x,y] t)).alloc (.cells #[x',y'] t)).alloc (.cells #[x2,y2] t)):=by
 obtain⟨h1,h2,h3⟩:=box2 w x y x' y' t;refine⟨h1.alloc _,h2.alloc _,?_,h3.alloc (by simp;omega) _⟩;have h:=Box.new ((w.alloc (.cells #[x,y] t)).alloc (.cells #[x',y'] t)) x2 y2 t;simpa using h
theorem zkg (s:Bool)(A:Option Addr)(c:Nat)(xs:List Nat)(w:World)(h:Us w A c xs)(hl:xs.length≤100000) :
  Calls Tryz.prog 172 #[.agg #[.bool s,.slice A xs.length c]] w (RetI (-ival s xs) w):=by
 have hcap:=h.cap;obtain⟨hX,hR,hB⟩:=box2 w (.bool s) (.slice A xs.length c) (.bool false) (.slice none 0 0) 69;have HX:=Hh hX.drew;have HR:=Hh hR.drew;have HB:=Hh (Below.drew' hB);have H1:=Hh (h.below HB.out);clear h hX hR hB;go_enter Tryz.func172,Tryz.ntmps172;go_wp2_with fail;go_region_held3 (fun w'=>w'.cell? ⟨w.heap.size,0,none⟩=some (.bool s)∧w'.cell? ⟨w.heap.size,1,none⟩=some (.slice A xs.length c))
  (first|go_keep|fail)
  (first
   | (go_at_call 171;refine(ziS _ _ xs _ H1.out (by omega)).mono ?_;rintro e w1 ⟨A1,c1,r1,rfl,q1,k1,v1,b1⟩;obtain⟨x1,x2,_,_,_⟩:=HX.out.below b1)
   | (go_at_call 170;refine(zbJ (!s) _ _ r1 _ q1 k1).mono ?_;rintro e w2 ⟨A2,c2,s2,r2,rfl,q2,k2,v2,b2⟩;obtain⟨x1,x2,_,_,_⟩:=(HX.out.below b1).below b2;obtain⟨y1,y2,y3,y4,_⟩:=(HR.out.below b1).below b2))
 go_wp2;obtain⟨e1,e2,_,_,_⟩:=(((HR.out.below b1).below b2).set (.bool s2) (.slice A2 r2.length c2));refine bodyPost_ret (v:=.agg #[.bool s2,.slice A2 r2.length c2]) (by simp[results,Tryz.results172,go_sem,e1,e2]) rfl ?_;refine RetI.box (by omega) ((HR.out.below b1).below b2) q2 k2 ?_ ((HB.out.trans (b1.mono HB.out.size)).trans (b2.mono (HB.out.trans (b1.mono HB.out.size)).size));rw[v2];unfold ival;rw[v1];cases s <;> simp
end Go.Proofs.YtbabbmdpgpcgjaaGreatDoor
