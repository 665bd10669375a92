import Derived.Test.YtikehjindobpkaaGreatGClOx

set_option linter.unusedVariables false
set_option linter.unusedSimpArgs false
set_option maxRecDepth 100000
set_option maxHeartbeats 6400000
namespace Go.Proofs.YtikehjindobpkaaGreat
open Go.RowKit Nds
structure Gv where
 s:Bool
 a:Option Addr
 c:Nat
 xs:List Nat
def gv0:Gv:=⟨false,none,0,[]⟩
def gat (l:List Gv)(i:Nat):Gv:=l[i]?.getD gv0
def encG (v:Gv):List Value:=[.bool v.s,.slice v.a v.xs.length v.c]
abbrev gvv (v:Gv):Value:=.agg #[.bool v.s,.slice v.a v.xs.length v.c]
theorem Tryz.infoG:(Tryz.prog.info? 31).map (fun i=>(i.zero,i.size,i.bytes))=some (some (gvv gv0),2,32):=by kernel_rfl
def gvcs (l:List Gv):List Value:=l.flatMap encG
theorem gvcs_len (l:List Gv):(gvcs l).length=l.length*2:=by
 unfold gvcs
 induction l with
 | nil=>rfl
 | cons x l ih =>
  rw[List.flatMap_cons,List.length_append,ih,List.length_cons];show 2+_=_
  omega
theorem gvcs_at:∀(l:List Gv) (i j:Nat),i<l.length→j<2→(gvcs l)[i*2+j]?=(encG (gat l i))[j]?
 | [],i,_,hi,_=>by simp at hi
 | x :: l,0,j,_,hj=>by
  show(encG x++gvcs l)[0*2+j]?=_
  rw[List.getElem?_append_left (by show _<2;omega),show 0*2+j=j by omega]
  rfl
 | x :: l,i+1,j,hi,hj=>by
  show(encG x++gvcs l)[(i+1)*2+j]?=_
  rw[List.getElem?_append_right (by show 2≤_;omega),show(i+1)*2+j-(encG x).length=i*2+j by show _-2=_;omega,gvcs_at l i j (by simpa using hi) hj]
  rfl
theorem gvcs_set:∀(L:List Gv) (i:Nat) (v:Gv),i<L.length→gvcs (L.set i v)=((gvcs L).set (i*2) (.bool v.s)).set (i*2+1) (.slice v.a v.xs.length v.c)
 | [],i,v,h=>by simp at h
 | x :: L,0,v,h=>rfl
 | x :: L,i+1,v,h=>by
  have ih:=gvcs_set L i v (by simpa using h)
  show encG x++gvcs (L.set i v)=_
  rw[ih];show _=((encG x++gvcs L).set ((i+1)*2) _).set ((i+1)*2+1) _
  have e:∀(l:List Value) (k:Nat) (u:Value),(encG x++l).set ((i+1)*2+k) u=encG x++l.set (i*2+k) u:=fun l k u=>by
   rw[List.set_append_right _ _ (by show 2≤_;omega)]
   congr 2
   show(i+1)*2+k-2=_
   omega
  have e0:∀(l:List Value) (u:Value),(encG x++l).set ((i+1)*2) u=encG x++l.set (i*2) u:=fun l u=>e l 0 u
  rw[e0,e]
def OwnG (w:World)(base g n:Nat)(l:List Gv):Prop:=l.length=n∧w.ownsRow base 31 2 (.slice (some ⟨g,0,none⟩) n n) n (gvcs l)
theorem OwnG.row {w:World}{base g n:Nat}{l:List Gv}(h:OwnG w base g n l):base≤g∧g<w.heap.size∧(∀i,i<n→w.cell? ⟨g,i*2,none⟩=some (.bool (gat l i).s)∧w.cell? ⟨g,i*2+1,none⟩=some (.slice (gat l i).a (gat l i).xs.length (gat l i).c))∧(∀o,w.frozen? ⟨g,o,none⟩=false)∧(∀o v,w.cell? ⟨g,o,none⟩=some v→∀k,v≠.int .u32 k):=by
 obtain⟨hn,h⟩:=h
 rcases h.2 with⟨h',_⟩|⟨g',cap,cur,h',hb,hg,hnc,hcm,hcs,htake⟩
 ·cases h'
 ·cases h'
  have hlt:g<w.heap.size:=by
   rcases Nat.lt_or_ge g w.heap.size with hlt|hge
   ·exact hlt
   ·rw[Array.getElem?_eq_none hge] at hg;cases hg
  have hcell:∀i,i<n→∀j,j<2→w.cell? ⟨g,i*2+j,none⟩=(encG (gat l i))[j]?:=by
   intro i hi j hj
   have hlt:i*2+j<n*2:=by omega
   rw[cell_of_row w g (i*2+j) cur _ (0,0) hg,←gvcs_at l i j (by omega) hj,←htake,List.getElem?_take,if_pos hlt];simp
  refine⟨hb,hlt,fun i hi=>⟨hcell i hi 0 (by omega),hcell i hi 1 (by omega)⟩,fun o=>frozen_of_row _ _ _ _ _ hg,?_⟩
  intro o v hv k e
  subst e;rw[cell_of_row w g o cur _ (0,0) hg] at hv;have ho:o<n*2:=by
   have:=(Array.getElem?_eq_some_iff.1 hv).1
   omega
  have h2:(gvcs l)[o]?=some (.int .u32 k):=by
   rw[←htake,List.getElem?_take,if_pos ho,Array.getElem?_toList];exact hv
  have h3:(Value.int .u32 k)∈gvcs l:=List.mem_of_getElem? h2
  obtain⟨x,_,hx⟩:=List.mem_flatMap.1 h3
  simp[encG] at hx
theorem OwnG.kept {w w':World}{base g n:Nat}{l:List Gv}(h:OwnG w base g n l){row:Option Nat}(hg:w.grownBy w' row)(hv:row≠some g):OwnG w' base g n l :=
 ⟨h.1,World.ownsRow.kept h.2 hg (.inr fun e=>hv e.symm)⟩
theorem OwnG.next {w w':World}{base g n:Nat}{l:List Gv}(h:OwnG w base g n l)(hb:Below w.heap.size w w'):OwnG w' base g n l:=h.kept (gbN hb) (by simp)
theorem OwnG.put {w:World}{base g n:Nat}{L:List Gv}(h:OwnG w base g n L){i:Nat}(hi:i<n)(v:Gv) :
  OwnG ((w.setCell ⟨g,i*2,none⟩ (.bool v.s)).setCell ⟨g,i*2+1,none⟩ (.slice v.a v.xs.length v.c)) base g n (L.set i v):=by
 refine⟨by rw[List.length_set];exact h.1,?_⟩
 rw[gvcs_set L i v (by rw[h.1];exact hi)]
 exact((h.2.stored (i*2) (.bool v.s)).1.stored (i*2+1) (.slice v.a v.xs.length v.c)).1
theorem madeG (n:Nat):(madeCells (gvv gv0).cells (n*2)).toList=gvcs (List.replicate n gv0):=by
 refine List.ext_getElem? fun t=>?_
 by_cases ht:t<n*2
 ·obtain⟨i,j,rfl,hj⟩:∃i j,t=i*2+j∧j<2:=⟨t / 2,t%2,by omega,by omega⟩
  rw[gvcs_at _ i j (by rw[List.length_replicate];omega) hj]
  have e1:gat (List.replicate n gv0) i=gv0:=by
   unfold gat;rw[List.getElem?_replicate,if_pos (by omega)]
   rfl
  rw[e1];simp only[madeCells,Array.getElem?_toList]
  match j,hj with
  | 0,_ =>
   simp only[Nat.add_zero] at ht ⊢
   simp[ht,gv0,encG,Value.cells,show i*2%2=0 by omega]
  | 1,_=>simp[ht,gv0,encG,Value.cells,show(i*2+1)%2=1 by omega]
 ·rw[List.getElem?_eq_none (by rw[Array.length_toList,size_madeCells];omega),List.getElem?_eq_none (by rw[gvcs_len,List.length_replicate];omega)]
theorem OwnG.made {w:World}{base g n:Nat}(h:w.ownsRow base 31 2 (.slice (some ⟨g,0,none⟩) n n) n (madeCells (gvv gv0).cells (n*2)).toList):OwnG w base g n (List.replicate n gv0) :=
 ⟨List.length_replicate,by rw[←madeG];exact h⟩
theorem gat_set_same {L:List Gv}{i:Nat}(h:i<L.length)(u:Gv):gat (L.set i u) i=u:=by
 unfold gat
 rw[List.getElem?_set,if_pos rfl,if_pos h]
 rfl
theorem gat_set_ne {L:List Gv}{i j:Nat}(h:i≠j)(u:Gv):gat (L.set i u) j=gat L j:=by
 unfold gat
 rw[List.getElem?_set,if_neg h]
structure GIn (W:World)(v:Gv)(m:Int):Prop where
 us:Us W v.a v.c v.xs
 cn:CanonI v.s v.xs
 v:ival v.s v.xs=m
theorem GIn.next {W W1:World}{v:Gv}{m:Int}(h:GIn W v m)(k:Below W.heap.size W W1):GIn W1 v m:=⟨h.us.below k,h.cn,h.v⟩
theorem GIn.over {W W1:World}{v:Gv}{m:Int}{g:Nat}(h:GIn W v m)(hg:∀o v,W.cell? ⟨g,o,none⟩=some v→∀k,v≠.int .u32 k)(hk:W.grownBy W1 (some g)):GIn W1 v m :=
 ⟨us_kept h.us (fun q h1 h2=>hk.block q h1 (fun e=>h2 (by cases e;rfl))) hk.size (us_off h.us hg),h.cn,h.v⟩
end Go.Proofs.YtikehjindobpkaaGreat

namespace Go.Proofs.YtikehjindobpkaaGreat
open Nds
def listT:Tr→Int→Int→List Cl
 | .e,_,_=>[]
 | .s k,X,Y=>[⟨X,Y,k⟩]
 | .n v a b c d,X,Y=>listT a X Y++listT b (X+p2 (v.toNat-1)) Y++listT c X (Y+p2 (v.toNat-1))++listT d (X+p2 (v.toNat-1)) (Y+p2 (v.toNat-1))
def countT:Tr→Nat
 | .e=>0
 | .s _=>1
 | .n _ a b c d=>countT a+countT b+countT c+countT d
theorem listT_len:∀(t:Tr) (X Y:Int),(listT t X Y).length=countT t
 | .e,_,_=>rfl
 | .s k,_,_=>rfl
 | .n v a b c d,X,Y=>by
  show(listT a X Y++listT b (X+p2 (v.toNat-1)) Y++listT c X (Y+p2 (v.toNat-1))++listT d (X+p2 (v.toNat-1)) (Y+p2 (v.toNat-1))).length=countT a+countT b+countT c+countT d
  rw[List.length_append,List.length_append,List.length_append,listT_len a,listT_len b,listT_len c,listT_len d]
theorem lk_app:∀(l m:List Cl) (x y:Int),lk (l++m) x y=if (∃c∈l,c.x=x∧c.y=y) then lk l x y else lk m x y
 | [],m,x,y=>by
  rw[if_neg (by rintro⟨c,hc,_⟩;cases hc)]
  rfl
 | a :: l,m,x,y=>by
  show(if a.x=x∧a.y=y then a.s else lk (l++m) x y)=if _ then (if a.x=x∧a.y=y then a.s else lk l x y) else _
  by_cases ha:a.x=x∧a.y=y
  ·rw[if_pos ha,if_pos ⟨a,by simp,ha⟩,if_pos ha]
  ·rw[if_neg ha,lk_app l m x y];by_cases hl:∃c∈l,c.x=x∧c.y=y
   ·obtain⟨c,hc,h⟩:=hl
    rw[if_pos ⟨c,hc,h⟩,if_pos ⟨c,by simp[hc],h⟩,if_neg ha]
   ·rw[if_neg hl,if_neg]
    rintro⟨c,hc,h⟩
    rcases List.mem_cons.1 hc with rfl|hc
    ·exact ha h
    ·exact hl ⟨c,hc,h⟩
theorem lk_app_sq {X Y h:Int}{l m:List Cl}(hl:∀c∈l,sqB X Y h c=true)(hm:∀c∈m,sqB X Y h c=false)(x y:Int):lk (l++m) x y=lk l x y+lk m x y:=by
 rw[lk_app]
 by_cases he:∃c∈l,c.x=x∧c.y=y
 ·rw[if_pos he];obtain⟨c,hc,h1⟩:=he
  have h2:=sq_iff.1 (hl c hc)
  rw[lk_none (l:=m) (fun d hd e=>by
   have h3:=hm d hd
   have h4:sqB X Y h d=true:=sq_iff.2 (by rw[e.1,e.2,←h1.1,←h1.2];exact h2)
   rw[h4] at h3;cases h3)]
  omega
 ·rw[if_neg he,lk_none (l:=l) (fun d hd e=>he ⟨d,hd,e⟩)];omega
theorem listT_spec:∀(t:Tr) (n:Nat)(X Y:Int),wfT (n:Int) t→Fine (listT t X Y)∧(∀c∈listT t X Y,sqB X Y (p2 n) c=true)∧∀x y,lk (listT t X Y) x y=cellC t (x-X)(y-Y)
 | .e,_,_,_,_=>⟨⟨fun c hc=>absurd hc (List.not_mem_nil),List.Pairwise.nil⟩,fun c hc=>absurd hc (List.not_mem_nil),fun x y=>rfl⟩
 | .s k,n,X,Y,hw=>by
  have hn:(n:Int)=0:=hw.1
  have:n=0:=by omega
  subst this;refine⟨⟨fun c hc=>?_,List.pairwise_singleton _ _⟩,fun c hc=>?_,fun x y=>?_⟩
  ·rw[List.mem_singleton.1 hc];exact⟨hw.2.1,hw.2.2⟩
  ·rw[List.mem_singleton.1 hc,sq_iff,p2_zero];show X≤X∧X<X+1∧Y≤Y∧Y<Y+1
   omega
  ·show(if X=x∧Y=y then k else 0)=if x-X=0∧y-Y=0 then k else 0
   by_cases h:X=x∧Y=y
   ·rw[if_pos h,if_pos (by omega)]
   ·rw[if_neg h,if_neg (by omega)]
 | .n v a b c d,n,X,Y,hw=>by
  obtain⟨m,rfl,rfl,ha,hb,hc,hd,_⟩:=wf_n hw
  have hp:=p2_pos m
  have ep:=p2_succ m
  obtain⟨fa,sa,ka⟩:=listT_spec a m X Y ha
  obtain⟨fb,sb,kb⟩:=listT_spec b m (X+p2 m) Y hb
  obtain⟨fc,sc,kc⟩:=listT_spec c m X (Y+p2 m) hc
  obtain⟨fd,sd,kd⟩:=listT_spec d m (X+p2 m) (Y+p2 m) hd
  have e:((m:Int)+1).toNat-1=m:=by omega
  have el:listT (.n ((m:Int)+1) a b c d) X Y=listT a X Y++listT b (X+p2 m) Y++listT c X (Y+p2 m)++listT d (X+p2 m) (Y+p2 m):=by
   show listT a X Y++listT b (X+p2 (((m:Int)+1).toNat-1)) Y++listT c X (Y+p2 (((m:Int)+1).toNat-1))++listT d (X+p2 (((m:Int)+1).toNat-1)) (Y+p2 (((m:Int)+1).toNat-1))=_
   rw[e]
  rw[el];have apart:∀{l1 l2:List Cl} {X1 Y1 X2 Y2:Int},(∀c∈l1,sqB X1 Y1 (p2 m) c=true)→(∀c∈l2,sqB X2 Y2 (p2 m) c=true)→(X1+p2 m≤X2∨X2+p2 m≤X1∨Y1+p2 m≤Y2∨Y2+p2 m≤Y1)→∀c∈l1,∀d∈l2,¬ (c.x=d.x∧c.y=d.y):=fun h1 h2 h3 c hc d hd e=>by
   have a1:=sq_iff.1 (h1 c hc)
   have a2:=sq_iff.1 (h2 d hd)
   omega
  have outOf:∀{l2:List Cl} {X1 Y1 X2 Y2:Int},(∀c∈l2,sqB X2 Y2 (p2 m) c=true)→(X1+p2 m≤X2∨X2+p2 m≤X1∨Y1+p2 m≤Y2∨Y2+p2 m≤Y1)→∀c∈l2,sqB X1 Y1 (p2 m) c=false:=fun h2 h3 c hc=>by
   have a2:=sq_iff.1 (h2 c hc)
   cases hq:sqB _ _ (p2 m) c
   ·rfl
   ·have:=sq_iff.1 hq
    omega
  refine⟨⟨fun q hq=>?_,?_⟩,fun q hq=>?_,fun x y=>?_⟩
  ·rcases List.mem_append.1 hq with hq|hq
   ·rcases List.mem_append.1 hq with hq|hq
    ·rcases List.mem_append.1 hq with hq|hq
     ·exact fa.1 q hq
     ·exact fb.1 q hq
    ·exact fc.1 q hq
   ·exact fd.1 q hq
  ·rw[List.pairwise_append,List.pairwise_append,List.pairwise_append];refine⟨⟨⟨fa.2,fb.2,apart sa sb (by omega)⟩,fc.2,fun q hq=>?_⟩,fd.2,fun q hq=>?_⟩
   ·rcases List.mem_append.1 hq with hq|hq
    ·exact apart sa sc (by omega) q hq
    ·exact apart sb sc (by omega) q hq
   ·rcases List.mem_append.1 hq with hq|hq
    ·rcases List.mem_append.1 hq with hq|hq
     ·exact apart sa sd (by omega) q hq
     ·exact apart sb sd (by omega) q hq
    ·exact apart sc sd (by omega) q hq
  ·rw[sq_iff,p2_succ];rcases List.mem_append.1 hq with hq|hq
   ·rcases List.mem_append.1 hq with hq|hq
    ·rcases List.mem_append.1 hq with hq|hq
     ·have:=sq_iff.1 (sa q hq);omega
     ·have:=sq_iff.1 (sb q hq);omega
    ·have:=sq_iff.1 (sc q hq);omega
   ·have:=sq_iff.1 (sd q hq);omega
  ·rw[List.append_assoc,List.append_assoc,lk_app_sq sa (fun q hq=>by
    rcases List.mem_append.1 hq with hq|hq
    ·exact outOf sb (by omega) q hq
    ·rcases List.mem_append.1 hq with hq|hq
     ·exact outOf sc (by omega) q hq
     ·exact outOf sd (by omega) q hq),lk_app_sq sb (fun q hq=>by
    rcases List.mem_append.1 hq with hq|hq
    ·exact outOf sc (by omega) q hq
    ·exact outOf sd (by omega) q hq),lk_app_sq sc (fun q hq=>outOf sd (by omega) q hq),ka,kb,kc,kd,cell_q ha hb hc hd]
   rw[show x-(X+p2 m)=x-X-p2 m by omega,show y-(Y+p2 m)=y-Y-p2 m by omega];omega
theorem mem_of_lk:∀{l:List Cl} {x y:Int},lk l x y≠0→∃c∈l,c.x=x∧c.y=y∧c.s=lk l x y
 | [],_,_,h=>absurd rfl h
 | c :: l,x,y,h=>by
  by_cases hc:c.x=x∧c.y=y
  ·exact⟨c,by simp,hc.1,hc.2,by unfold lk;rw[if_pos hc]⟩
  ·have e:lk (c :: l) x y=lk l x y:=by
    conv=>lhs;unfold lk
    rw[if_neg hc]
   rw[e] at h ⊢;obtain⟨d,hd,h1⟩:=mem_of_lk h
   exact⟨d,by simp[hd],h1⟩
theorem fine_lk:∀{l:List Cl},l.Pairwise (fun a b=>¬ (a.x=b.x∧a.y=b.y))→∀{c:Cl},c∈l→lk l c.x c.y=c.s
 | a :: l,h,c,hc=>by
  obtain⟨h1,h2⟩:=List.pairwise_cons.1 h
  unfold lk;rcases List.mem_cons.1 hc with rfl|hc
  ·rw[if_pos ⟨rfl,rfl⟩]
  ·rw[if_neg (h1 c hc),fine_lk h2 hc]
theorem fine_perm {l m:List Cl}(hl:Fine l)(hm:Fine m)(h:∀x y,lk l x y=lk m x y):l.Perm m:=by
 have nd:∀{l:List Cl},Fine l→l.Nodup:=fun h=>h.2.imp fun {a b} h e=>h ⟨congrArg Cl.x e,congrArg Cl.y e⟩
 have key:∀{l m:List Cl} {c:Cl},Fine l→Fine m→(∀x y,lk l x y=lk m x y)→c∈l→c∈m:=fun {l m c} hl hm h hc=>by
  have h1:=fine_lk hl.2 hc
  rw[h] at h1;have h0:=(hl.1 c hc).1
  obtain⟨d,hd,e1,e2,e3⟩:=mem_of_lk (l:=m) (x:=c.x) (y:=c.y) (by rw[h1];omega)
  have:c=d:=Cl.ext' e1.symm e2.symm (by rw[e3,h1])
  rw[this];exact hd
 exact(List.perm_ext_iff_of_nodup (nd hl) (nd hm)).2 fun c=>⟨key hl hm h,key hm hl fun x y=>(h x y).symm⟩
theorem lk_perm {l m:List Cl}(hl:l.Pairwise (fun a b=>¬ (a.x=b.x∧a.y=b.y)))(hm:m.Pairwise (fun a b=>¬ (a.x=b.x∧a.y=b.y)))(h:l.Perm m)(x y:Int):lk l x y=lk m x y:=by
 by_cases he:∃c∈l,c.x=x∧c.y=y
 ·obtain⟨c,hc,rfl,rfl⟩:=he
  rw[fine_lk hl hc,fine_lk hm (h.mem_iff.1 hc)]
 ·rw[lk_none fun c hc e=>he ⟨c,hc,e⟩,lk_none fun c hc e=>he ⟨c,h.mem_iff.2 hc,e⟩]
theorem unlike_perm {l m:List Cl}(h:l.Perm m)(hl:l.Pairwise (fun a b=>¬ (a.x=b.x∧a.y=b.y))):m.Pairwise (fun a b=>¬ (a.x=b.x∧a.y=b.y)) :=
 (h.pairwise_iff (fun {a b} h e=>h ⟨e.1.symm,e.2.symm⟩)).1 hl
theorem lastS_unlike {l:List Cl}(h:l.Pairwise (fun a b=>¬ (a.x=b.x∧a.y=b.y)))(x y:Int):lastS l x y=lk l x y:=by
 suffices hk:∀k,k≤l.length→lastS (l.take k) x y=lk (l.take k) x y by
  have:=hk l.length (Nat.le_refl _)
  rwa [List.take_of_length_le (Nat.le_refl _)] at this
 intro k
 induction k with
 | zero=>exact fun _=>rfl
 | succ k ih =>
  intro hk
  rw[List.take_succ_eq_append_getElem (by omega),lastS_snoc,ih (by omega),lk_app];have hp:∀d∈l.take k,¬ (d.x=l[k].x∧d.y=l[k].y):=fun d hd=>by
   obtain⟨i,hi,rfl⟩:=List.getElem_of_mem hd
   rw[List.length_take] at hi;rw[List.getElem_take];exact List.pairwise_iff_getElem.1 h i k _ _ (by omega)
  by_cases hc:l[k].x=x∧l[k].y=y
  ·rw[if_pos hc,if_neg (fun⟨d,hd,e⟩=>hp d hd ⟨e.1.trans hc.1.symm,e.2.trans hc.2.symm⟩)];unfold lk;rw[if_pos hc]
  ·rw[if_neg hc];by_cases hd:∃d∈l.take k,d.x=x∧d.y=y
   ·rw[if_pos hd]
   ·rw[if_neg hd,lk_none fun d hd' e=>hd ⟨d,hd',e⟩];unfold lk;rw[if_neg hc]
    rfl
theorem lastF_srt (l:List Cl):Srt (lastF l):=(lastF_spec l).1
theorem lastF_lk (l:List Cl)(x y:Int):lk (lastF l) x y=lastS l x y:=(lastF_spec l).2.1 x y
theorem lastF_eq {l m:List Cl}(hm:Srt m)(h0:∀c∈m,c.s≠0)(h:∀x y,lastS l x y=lk m x y):lastF l=m :=
 srt_uniq (lastF_srt l) hm (fun c hc=>((lastF_spec l).2.2 c hc).1) h0 fun x y=>by rw[lastF_lk,h]
theorem lastF_fine {l:List Cl}(h:∀c∈l,0≤c.s∧c.s≤255):Fine (lastF l) :=
 srt_fine (lastF_srt l) fun c hc=>by
  obtain⟨h1,h2⟩:=(lastF_spec l).2.2 c hc
  have:=h c h2
  omega
theorem lastF_len {l:List Cl}(h:Fine l):(lastF l).length=l.length :=
 (fine_perm (lastF_fine fun c hc=>by have:=h.1 c hc;omega) h fun x y=>by rw[lastF_lk,lastS_unlike h.2]).length_eq
theorem srt_unlike {l:List Cl}(h:Srt l):l.Pairwise (fun a b=>¬ (a.x=b.x∧a.y=b.y)):=h.imp fun h=>ltC_ne h
def QuadOf (L:List Cl)(out:List Nd):Prop :=
 ∃(t:Tr) (n:Nat),wfT (n:Int) t∧(∀k,t≠.s k)∧holT t=false∧out=(enc t []).1∧∀x y,cellM t x y=lk L x y
theorem nat_wf {t:Tr}{v:Int}(hw:wfT v t)(hs:∀k,t≠.s k):∃q:Nat,wfT (q:Int) t:=by
 cases t with
 | e=>exact⟨0,trivial⟩
 | s k=>exact absurd rfl (hs k)
 | n u a b c d =>
  have h1:=hw.1
  have h2:=hw.2.1
  exact⟨v.toNat,by rwa [show((v.toNat:Nat):Int)=v by omega]⟩
theorem ofL_quadOf {l:List Nd}(hl:looseB l=true){n:Nat}(hn:n≤l.length){L:List Cl}(h:∀x y,cellM (den l n) x y=lk L x y):QuadOf L (OfL l n):=by
 obtain⟨v,h1,h2,h3⟩:=ofL_tree hl hn
 obtain⟨q,hq⟩:=nat_wf h1 h2
 obtain⟨u,hu⟩:=wf_denn hl hn
 obtain⟨p,hp⟩:=nat_wf hu (fun k=>den_not_s)
 exact⟨_,q,hq,h2,h3,rfl,fun x y=>by rw[shr_cells hp];exact h x y⟩
theorem QuadOf.good {L:List Cl}{out:List Nd}(h:QuadOf L out):GoodL out:=by
 obtain⟨t,n,h1,h2,h3,rfl,h5⟩:=h
 exact(enc_spec _ _ [] h1 good_nil).good
theorem QuadOf.den {L:List Cl}{out:List Nd}(h:QuadOf L out)(x y:Int):cellM (den out out.length) x y=lk L x y:=by
 obtain⟨t,n,h1,h2,h3,rfl,h5⟩:=h
 rw[←h5]
 by_cases he:t=.e
 ·subst he;show cellM (Nds.den [] 0) x y=_
  rw[den_zero]
 ·rw[(enc_root h1 he h2).2.2]
def cornL (l:List Nd):List Cl:=listT (den l l.length) (-(p2 ((at_ l (l.length-1)).lv.toNat-1))) (-(p2 ((at_ l (l.length-1)).lv.toNat-1)))
theorem corn_spec {l:List Nd}(hl:looseB l=true):Fine (cornL l)∧∀x y,lk (cornL l) x y=cellM (den l l.length) x y:=by
 unfold cornL
 rcases Nat.eq_zero_or_pos l.length with h0|h0
 ·rw[h0,den_zero];exact⟨⟨fun c hc=>absurd hc (List.not_mem_nil),List.Pairwise.nil⟩,fun x y=>rfl⟩
 ·obtain⟨p,hp⟩:∃p,l.length=p+1:=⟨l.length-1,by omega⟩
  rw[hp,Nat.add_sub_cancel];have hw:=wf_den hl p (by omega)
  have hv:=fit_lv (loose_fit hl (i:=p) (by omega))
  obtain⟨n,hn⟩:∃n:Nat,(at_ l p).lv=(n:Int):=⟨_,(Int.toNat_of_nonneg (by omega)).symm⟩
  rw[hn] at hw ⊢;rw[Int.toNat_natCast];obtain⟨h1,h2,h3⟩:=listT_spec (den l (p+1)) n (-(p2 (n-1))) (-(p2 (n-1))) hw
  refine⟨h1,fun x y=>?_⟩
  rw[h3];unfold cellM
  generalize den l (p+1)=t at hw
  cases t with
  | e=>rfl
  | s k =>
   have:=hw.1
   omega
  | n v a b c d =>
   have e:v=(n:Int):=hw.1.symm
   subst e;show cellC _ _ _=cellC _ (x+p2 ((n:Int).toNat-1)) (y+p2 ((n:Int).toNat-1))
   rw[Int.toNat_natCast,show x - -(p2 (n-1))=x+p2 (n-1) by omega,show y - -(p2 (n-1))=y+p2 (n-1) by omega]
def cellsL (l:List Nd):List Cl:=lastF (cornL l)
theorem cells_lk {l:List Nd}(hl:looseB l=true)(x y:Int):lk (cellsL l) x y=cellM (den l l.length) x y:=by
 unfold cellsL
 rw[lastF_lk,lastS_unlike (corn_spec hl).1.2,(corn_spec hl).2]
theorem cells_srt (l:List Nd):Srt (cellsL l):=lastF_srt _
theorem cells_fine {l:List Nd}(hl:looseB l=true):Fine (cellsL l):=lastF_fine fun c hc=>by
 have:=(corn_spec hl).1.1 c hc
 omega
theorem cells_len {l:List Nd}(hl:looseB l=true):(cellsL l).length=countT (den l l.length):=by
 unfold cellsL
 rw[lastF_len (corn_spec hl).1]
 unfold cornL
 exact listT_len _ _ _
theorem QuadOf.cells {L:List Cl}{out:List Nd}(h:QuadOf L out)(hs:Srt L)(h0:∀c∈L,c.s≠0):cellsL out=L :=
 srt_uniq (cells_srt out) hs (fun c hc=>by have:=(cells_fine h.good.1).1 c hc;omega) h0 fun x y=>by rw[cells_lk h.good.1,h.den]
end Go.Proofs.YtikehjindobpkaaGreat

namespace Go.Proofs.YtikehjindobpkaaGreat
open Go.RowKit Num
def FrU (B:Nat)(A:Option Addr):Prop:=∀a,A=some a→B≤a.block
def RetIF (n:Int)(w:World)(e:Ending)(w':World):Prop :=
 ∃A c s rs,e=.returned (.agg #[.bool s,.slice A rs.length c])∧Us w' A c rs∧CanonI s rs∧ival s rs=n∧Below w.heap.size w w'∧FrU w.heap.size A
theorem RetIF.box {w w1:World}{g:Nat}{A A0:Option Addr}{c n0 c0:Nat}{s s0:Bool}{rs:List Nat}{n:Int}(hg:w.heap.size≤g)(hb:Box w1 g (.bool s0) (.slice A0 n0 c0))(q:Us w1 A c rs)(k:CanonI s rs)(v:ival s rs=n)(b:Below w.heap.size w w1)(f:FrU w.heap.size A) :
  RetIF n w (.returned (.agg #[.bool s,.slice A rs.length c])) ((w1.setCell ⟨g,0,none⟩ (.bool s)).setCell ⟨g,1,none⟩ (.slice A rs.length c)) :=
 ⟨A,c,s,rs,rfl,q.boxed hb _ _,k,v,(b.setCell (p:=⟨g,0,none⟩) hg _).setCell (p:=⟨g,1,none⟩) hg _,f⟩
def RetUR (n:Nat)(w:World)(e:Ending)(w':World):Prop :=
 ∃A c rs,e=.returned (.slice A rs.length c)∧Us w' A c rs∧Canon rs∧val rs=n∧Below w.heap.size w w'∧FrU w.heap.size A
theorem rof_fr (A:Option Addr)(c:Nat)(bs:List Bool)(w:World)(h:Bl w A c bs)(hl:bs.length≤100000000) :
  Calls Tryz.prog 78 #[.slice A bs.length c] w (RetUR (bval bs) w):=by
 obtain⟨i0,hi,hz0,hz1,hz2⟩:=info_parts Tryz.infoU
 have HH:=Lib.hid h
 have HI:=Lib.hid (And.intro hi (And.intro hz0 (And.intro hz1 hz2)))
 clear h hi hz0 hz1 hz2
 obtain⟨s,hs⟩:∃s,s=bval bs:=⟨_,rfl⟩
 rw[←hs]
 have HS:=Lib.hid hs
 clear hs
 go_enter Tryz.func78,Tryz.ntmps78
 go_wp2_with (go_at_call 106;refine(cut_any A c bs _ HH.out hl).mono ?_;rintro e w0 ⟨n,hn,rfl,hcan,hval,hb0⟩)
 obtain⟨ds,hds⟩:∃ds,ds=bs.take n:=⟨_,rfl⟩
 have hdl:n=ds.length:=by rw[hds,List.length_take,Nat.min_eq_left hn]
 have hD:Bl w0 A c ds:=by rw[hds];exact(HH.out.below hb0).take hn
 rw[←hds] at hcan hval
 have hnl:n≤100000000:=by omega
 have HD:=Lib.hid hD
 have HDL:=Lib.hid hdl
 have HC:=Lib.hid (And.intro hcan hval)
 have HB0:=Lib.hid hb0
 clear hds hdl hD hcan hval hb0 hn hl HH
 go_loopw [3,4,5,6,7] (fun v iv _ _ _ wr=>∃i:Nat,i<n+32∧iv=.int .i64 i∧OfRel i ds w0 v wr) (fun _ iv _ _ _ _=>n-(intOf iv).toNat)
 case atStart=>exact⟨0,by omega,rfl,OfRel.start _ _ _ (Below.refl _ _)⟩
 case round =>
  obtain⟨i,hi,rfl,R⟩:=hrel
  have HR:=Lib.hid R;clear R;by_cases hlt:i<n
  ·obtain⟨wo,rfl⟩:∃wo:World,wo=wr:=⟨_,rfl⟩
   go_wp2
   go_loopw [5,6,7] (fun xv pv kv wr=>∃k x p:Nat,i≤k∧k≤i+32∧k≤n∧kv=.int .i64 (k:Int)∧xv=.int .u32 (x:Int)∧pv=.int .u32 (p:Int)∧OfIn ds i k x p∧wr=wo) (fun _ _ kv _=>i+32-(intOf kv).toNat)
   case atStart=>exact⟨i,0,1,Nat.le_refl _,by omega,by omega,rfl,rfl,rfl,OfIn.start _ _,rfl⟩
   case round =>
    obtain⟨k,x,p,hk1,hk2,hk3,rfl,rfl,rfl,hin,rfl⟩:=hrel
    by_cases hgo:k<n∧k<i+32
    ·obtain⟨hg1,hg2⟩:=hgo
     obtain⟨b,off,hA,hb,hc⟩:=HD.out.at_ (by rw[←HDL.out];omega)
     have hbw:Below w0.heap.size w0 wr:=by obtain⟨_,_,_,_,_,_,_,_,h⟩:=HR.out;exact h
     have ex:=(hbw.cell (p:=⟨b,off+k,none⟩) hb).trans (hc k (by rw[←HDL.out];exact hg1))
     obtain⟨bt,hbt⟩:∃bt,bt=ds[k]?.getD false:=⟨_,rfl⟩
     rw[←hbt] at ex;obtain⟨hx1,hx2⟩:=hin.bound hk1 hg2
     have HN1:=Lib.hid (hin.next hk1 hg2 (by rw[←HDL.out];exact hg1) hbt)
     clear hc hbt hbw hin;subst hA;cases bt
     ·go_wp2
      go_roundw
      case rel=>exact⟨k+1,_,p*2%4294967296,by omega,by omega,by omega,by go_num,rfl,by simp,HN1.out,by first|trivial|rfl⟩
      case measure=>simp[intOf] <;> omega
     ·go_wp2
      go_roundw
      case rel=>exact⟨k+1,x+p,p*2%4294967296,by omega,by omega,by omega,by go_num,by simp,by simp,HN1.out,by first|trivial|rfl⟩
      case measure=>simp[intOf] <;> omega
    ·have hx:=hin.last hk1 hk2 (by rw[←HDL.out];exact hk3) (by rw[←HDL.out];omega)
     obtain⟨q,rs,r0,r1,r2,r3,r4,r5,r6⟩:=HR.out
     have HX:=Lib.hid hx;have HO:=Lib.hid (And.intro r0 (And.intro r1 (And.intro r2 (And.intro r3 r6))))
     have hrl:rs.length≤100000000:=by omega
     clear hx r0 r1 r2 r3 r4 r5 r6 hin HR;have hstop:¬ (k<n∧k<i+32):=hgo
     by_cases hkn:k<n
     ·have hki:¬ k<i+32:=by omega
      clear hgo hstop;go_wp2_with (at_builtin;refine wpList_append_own_at _ rfl _ _ 29 rfl w0.heap.size 80 i0 (.int .u32 0) 1 4 Tryz.underlying29 HI.out.1 HI.out.2.1 HI.out.2.2.1 HI.out.2.2.2 rfl (by decide) _ _ _ rfl (HO.out.2.1.2.alloc _) ⟨_,0,none⟩ 1 1 [.int .u32 (x:Int)] rfl rfl (cell_one_new _ _ _) (by simp[Value.oneCell']) (by simp only[maxLen];omega) (by omega) (by have:=HO.out.2.2.2.2.size;simp;omega) ?_;intro v2 w2 own2 grow2 _ at2)
      go_roundw
      case rel=>exact⟨i+32,by omega,by go_num,OfRel.next HO.out.1 HO.out.2.1 HO.out.2.2.1 HO.out.2.2.2.1 HO.out.2.2.2.2 (by rw[←HDL.out];exact hlt) HX.out own2 grow2⟩
      case measure=>simp[intOf] <;> omega
     ·clear hgo hstop;go_wp2_with (at_builtin;refine wpList_append_own_at _ rfl _ _ 29 rfl w0.heap.size 80 i0 (.int .u32 0) 1 4 Tryz.underlying29 HI.out.1 HI.out.2.1 HI.out.2.2.1 HI.out.2.2.2 rfl (by decide) _ _ _ rfl (HO.out.2.1.2.alloc _) ⟨_,0,none⟩ 1 1 [.int .u32 (x:Int)] rfl rfl (cell_one_new _ _ _) (by simp[Value.oneCell']) (by simp only[maxLen];omega) (by omega) (by have:=HO.out.2.2.2.2.size;simp;omega) ?_;intro v2 w2 own2 grow2 _ at2)
      go_roundw
      case rel=>exact⟨i+32,by omega,by go_num,OfRel.next HO.out.1 HO.out.2.1 HO.out.2.2.1 HO.out.2.2.2.1 HO.out.2.2.2.2 (by rw[←HDL.out];exact hlt) HX.out own2 grow2⟩
      case measure=>simp[intOf] <;> omega
  ·obtain⟨q,rs,r0,r1,r2,r3,r4,r5,r6⟩:=HR.out
   obtain⟨A1,c1,hv⟩:=r1.shape
   subst hv;have HFR:=Lib.hid (show FrU w0.heap.size A1 from fun a ea=>by subst ea;exact(World.ownsRow.lt r1.2 _ rfl).1)
   have HO:=Lib.hid (And.intro r1 (And.intro r3 (And.intro r5 r6)))
   clear r0 r1 r2 r3 r4 r5 r6 HR
   go_wp2
   go_ret
   refine⟨A1,c1,rs,rfl,HO.out.1.reads rfl,HO.out.2.2.1 (by rw[←HDL.out];omega) HC.out.1,?_,HB0.out.trans (HO.out.2.2.2.mono HB0.out.size),fun a ea=>Nat.le_trans HB0.out.size (HFR.out a ea)⟩
   rw[HO.out.2.1,List.take_of_length_le (by rw[←HDL.out];omega),HC.out.2,HS.out]
theorem rnorm_fr (A:Option Addr)(c:Nat)(xs:List Nat)(w:World)(h:Us w A c xs)(hl:xs.length≤1000000) :
  Calls Tryz.prog 75 #[.slice A xs.length c] w (RetUR (val xs) w):=by
 have HH:=Lib.hid h
 have hd:=h.1
 clear h
 go_enter Tryz.func75,Tryz.ntmps75
 go_wp2_with (first
  | (go_at_call 76;refine(bits_any A c xs _ HH.out hl).mono ?_;rintro e w1 ⟨A1,c1,bs,rfl,q1,k1,v1,b1⟩)
  | (go_at_call 78;refine(rof_fr A1 c1 bs _ q1 (by have:=bits_len hd k1 v1;omega)).mono ?_;rintro e w2 ⟨A2,c2,rs,rfl,q2,k2,v2,b2,f2⟩;have HF:=Lib.hid (And.intro b1.size f2);clear f2))
 go_ret
 exact⟨A2,c2,rs,rfl,q2,k2,v2.trans v1,b1.trans (b2.mono b1.size),fun a ea=>Nat.le_trans HF.out.1 (HF.out.2 a ea)⟩
theorem rsign_fr (s:Bool)(A:Option Addr)(c:Nat)(xs:List Nat)(w:World)(h:Us w A c xs)(hl:xs.length≤100000) :
  Calls Tryz.prog 46 #[.bool s,.slice A xs.length c] w (RetIF (ival s xs) w):=by
 have hcap:=h.cap
 have b0:=Lib.hid ((Below.refl w.heap.size w).alloc (Nat.le_refl _) (.cells #[.bool false,.slice none 0 0] 31))
 have H1:=Lib.hid h
 clear h
 go_enter Tryz.func46,Tryz.ntmps46
 cases s
 all_goals
  go_wp2_with (go_at_call 75;refine(rnorm_fr _ _ xs _ (H1.out.below b0.out) (by omega)).mono ?_;rintro e w1 ⟨A1,c1,r1,rfl,q,k1,v1,b,f1⟩;have HF1:=Lib.hid (show FrU w.heap.size A1 from fun a ea=>Nat.le_trans (by simp) (f1 a ea));clear f1;have hcap1:=q.cap;obtain⟨x1,x2,x3,x4,x5⟩:=(Box.new w _ _ _).below b;have HQ:=Lib.hid (And.intro q (And.intro k1 (And.intro v1 b)));clear q k1 v1 b)
 all_goals
  have HB:=(Box.new w (.bool false) (.slice none 0 0) 31).below HQ.out.2.2.2
  have hw1:Below w.heap.size w w1:=b0.out.trans (HQ.out.2.2.2.mono (by simp))
  clear x1 x2 x3 x4 x5
 ·obtain⟨e1,e2,_,_,_⟩:=HB.set (.bool false) (.slice A1 r1.length c1)
  refine bodyPost_ret (v:=.agg #[.bool false,.slice A1 r1.length c1]) (by simp[results,Tryz.results46,go_sem,e1,e2]) rfl ?_
  exact RetIF.box (Nat.le_refl _) HB HQ.out.1 ⟨HQ.out.2.1,by simp⟩ (by unfold ival;simp[HQ.out.2.2.1]) hw1 HF1.out
 ·obtain⟨e1,e2,_,_,_⟩:=HB.set (.bool (decide (0<r1.length))) (.slice A1 r1.length c1)
  refine bodyPost_ret (v:=.agg #[.bool (decide (0<r1.length)),.slice A1 r1.length c1]) (by simp[results,Tryz.results46,go_sem,e1,e2]) rfl ?_
  refine RetIF.box (Nat.le_refl _) HB HQ.out.1 (by simpa using canonI_of HQ.out.2.1 true) ?_ hw1 HF1.out
  have:=ival_of r1 true
  simp only[Bool.true_and] at this
  rw[this];unfold ival;simp[HQ.out.2.2.1]
theorem rbadd_sameF (s:Bool)(A B:Option Addr)(c d:Nat)(xs ys:List Nat)(w:World)(h:Us w A c xs)(k:Us w B d ys)(hl:xs.length≤60000)(kl:ys.length≤60000) :
  Calls Tryz.prog 21 #[.agg #[.bool s,.slice A xs.length c],.agg #[.bool s,.slice B ys.length d]] w (RetIF (ival s xs+ival s ys) w):=by
 have hcap:=h.cap
 have kcap:=k.cap
 obtain⟨hX,hY,hR,hB⟩:=box3 w (.bool s) (.slice A xs.length c) (.bool s) (.slice B ys.length d) (.bool false) (.slice none 0 0) 31
 have HX:=Lib.hid hX.drew
 have HY:=Lib.hid hY.drew
 have HR:=Lib.hid hR.drew
 have HB:=Lib.hid (Below.drew' hB)
 have H1:=Lib.hid (h.below HB.out)
 have H2:=Lib.hid (k.below HB.out)
 have hd:=h.1
 have kd:=k.1
 clear h k hX hY hR hB
 have n1:¬ w.heap.size=w.heap.size+1+1:=by omega
 have n2:¬ w.heap.size+1+1=w.heap.size:=by omega
 go_enter Tryz.func21,Tryz.ntmps21
 go_wp2_with fail
 go_region_held3 (fun w'=>w'.cell? ⟨w.heap.size,0,none⟩=some (.bool s)∧w'.cell? ⟨w.heap.size,1,none⟩=some (.slice A xs.length c)∧w'.cell? ⟨w.heap.size+1,1,none⟩=some (.slice B ys.length d))
  (first|go_keep|fail)
  (first
   | (go_at_call 47;refine(radd_any _ _ _ _ xs ys _ H1.out H2.out (by omega) (by omega)).mono ?_;rintro e w1 ⟨A1,c1,r1,rfl,q1,k1,v1,b1⟩;obtain⟨x1,x2,_,_,_⟩:=HX.out.below b1;obtain⟨_,z2,_,_,_⟩:=HY.out.below b1;have l1:=len_sum hd kd hl kl k1 v1)
   | (go_at_call 46;refine(rsign_fr s _ _ r1 _ q1 (by omega)).mono ?_;rintro e w2 ⟨A2,c2,s2,r2,rfl,q2,k2,v2,b2,f2⟩;have HF2:=Lib.hid f2;clear f2;obtain⟨x1,x2,_,_,_⟩:=(HX.out.below b1).below b2;obtain⟨_,z2,_,_,_⟩:=(HY.out.below b1).below b2;obtain⟨y1,y2,y3,y4,_⟩:=(HR.out.below b1).below b2))
 go_wp2
 obtain⟨e1,e2,_,_,_⟩:=(((HR.out.below b1).below b2).set (.bool s2) (.slice A2 r2.length c2))
 refine bodyPost_ret (v:=.agg #[.bool s2,.slice A2 r2.length c2]) (by simp[results,Tryz.results21,go_sem,e1,e2]) rfl ?_
 refine RetIF.box (by omega) ((HR.out.below b1).below b2) q2 k2 (v2.trans ?_) ((HB.out.trans (b1.mono HB.out.size)).trans (b2.mono (HB.out.trans (b1.mono HB.out.size)).size)) (fun a ea=>Nat.le_trans HB.out.size (Nat.le_trans b1.size (HF2.out a ea)))
 unfold ival
 rw[v1]
 cases s <;> simp <;> omega
theorem rbadd_moreF (s:Bool)(A B:Option Addr)(c d:Nat)(xs ys:List Nat)(w:World)(h:Us w A c xs)(k:Us w B d ys)(hl:xs.length≤60000)(kl:ys.length≤60000)(hle:val ys≤val xs) :
  Calls Tryz.prog 21 #[.agg #[.bool s,.slice A xs.length c],.agg #[.bool (!s),.slice B ys.length d]] w (RetIF (ival s xs+ival (!s) ys) w):=by
 have hcap:=h.cap
 have kcap:=k.cap
 obtain⟨hX,hY,hR,hB⟩:=box3 w (.bool s) (.slice A xs.length c) (.bool (!s)) (.slice B ys.length d) (.bool false) (.slice none 0 0) 31
 have HX:=Lib.hid hX
 have HY:=Lib.hid hY
 have HR:=Lib.hid hR
 have HB:=Lib.hid (hB)
 have H1:=Lib.hid (h.below HB.out)
 have H2:=Lib.hid (k.below HB.out)
 have hd:=h.1
 have kd:=k.1
 clear h k hX hY hR hB
 have n1:¬ w.heap.size=w.heap.size+1+1:=by omega
 have n2:¬ w.heap.size+1+1=w.heap.size:=by omega
 have HL:=Lib.hid hle
 clear hle
 have hst:(s == !s)=false:=by cases s <;> rfl
 go_enter Tryz.func21,Tryz.ntmps21
 go_wp2_with (first
  | (go_at_call_of 48 (Value.slice A xs.length c);go_loud (refine(rsub_any _ _ _ _ xs ys _ H1.out H2.out (by omega) (by omega)).mono ?_;intro e w1 h;obtain⟨A1,c1,r1,rfl,q1,k1,v1,b1⟩:=h.2 HL.out;clear h;obtain⟨x1,x2,_,_,_⟩:=HX.out.below b1;obtain⟨z1,z2,_,_,_⟩:=HY.out.below b1;have l1:=len_less hd hl k1 v1;have HV:=Lib.hid v1;clear v1))
  | (go_at_call 46;go_loud (refine(rsign_fr s _ _ r1 _ q1 (by omega)).mono ?_;rintro e w2 ⟨A2,c2,s2,r2,rfl,q2,k2,v2,b2,f2⟩;have HF2:=Lib.hid f2;clear f2;obtain⟨y1,y2,y3,y4,_⟩:=(HR.out.below b1).below b2;have HV2:=Lib.hid v2;clear v2)))
 obtain⟨e1,e2,_,_,_⟩:=(((HR.out.below b1).below b2).set (.bool s2) (.slice A2 r2.length c2))
 refine bodyPost_ret (v:=.agg #[.bool s2,.slice A2 r2.length c2]) (by simp[results,Tryz.results21,go_sem,e1,e2]) rfl ?_
 refine RetIF.box (by omega) ((HR.out.below b1).below b2) q2 k2 (HV2.out.trans ?_) ((HB.out.trans (b1.mono HB.out.size)).trans (b2.mono (HB.out.trans (b1.mono HB.out.size)).size)) (fun a ea=>Nat.le_trans HB.out.size (Nat.le_trans b1.size (HF2.out a ea)))
 have hle:=HL.out
 unfold ival
 rw[HV.out]
 cases s <;> simp <;> omega
theorem rbadd_lessF (s:Bool)(A B:Option Addr)(c d:Nat)(xs ys:List Nat)(w:World)(h:Us w A c xs)(k:Us w B d ys)(hl:xs.length≤60000)(kl:ys.length≤60000)(hle:val xs<val ys) :
  Calls Tryz.prog 21 #[.agg #[.bool s,.slice A xs.length c],.agg #[.bool (!s),.slice B ys.length d]] w (RetIF (ival s xs+ival (!s) ys) w):=by
 have hcap:=h.cap
 have kcap:=k.cap
 obtain⟨hX,hY,hR,hB⟩:=box3 w (.bool s) (.slice A xs.length c) (.bool (!s)) (.slice B ys.length d) (.bool false) (.slice none 0 0) 31
 have HX:=Lib.hid hX
 have HY:=Lib.hid hY
 have HR:=Lib.hid hR
 have HB:=Lib.hid (hB)
 have H1:=Lib.hid (h.below HB.out)
 have H2:=Lib.hid (k.below HB.out)
 have hd:=h.1
 have kd:=k.1
 clear h k hX hY hR hB
 have n1:¬ w.heap.size=w.heap.size+1+1:=by omega
 have n2:¬ w.heap.size+1+1=w.heap.size:=by omega
 have HL:=Lib.hid hle
 clear hle
 have hst:(s == !s)=false:=by cases s <;> rfl
 have tok0:True:=trivial
 go_enter Tryz.func21,Tryz.ntmps21
 go_wp2_with (first
  | (go_at_call 48;have _t:=tok0;refine(rsub_any A B _ _ xs ys _ H1.out H2.out (by omega) (by omega)).mono ?_;intro e w1 h;obtain⟨rfl,b1⟩:=h.1 HL.out;clear h tok0 _t;obtain⟨x1,x2,_,_,_⟩:=HX.out.below b1;obtain⟨z1,z2,_,_,_⟩:=HY.out.below b1)
  | (go_at_call 48;go_loud (refine(rsub_any B A _ _ ys xs _ (H2.out.below b1) (H1.out.below b1) (by omega) (by omega)).mono ?_;intro e w3 h;obtain⟨A1,c1,r1,rfl,q1,k1,v1,b3⟩:=h.2 (Nat.le_of_lt HL.out);clear h x1 x2 z1 z2;obtain⟨x1,x2,_,_,_⟩:=(HX.out.below b1).below b3;obtain⟨z1,z2,_,_,_⟩:=(HY.out.below b1).below b3;have l1:=len_less kd kl k1 v1;have HV:=Lib.hid v1;clear v1))
  | (go_at_call 46;go_loud (refine(rsign_fr (!s) _ _ r1 _ q1 (by omega)).mono ?_;rintro e w2 ⟨A2,c2,s2,r2,rfl,q2,k2,v2,b2,f2⟩;have HF2:=Lib.hid f2;clear f2;obtain⟨y1,y2,y3,y4,_⟩:=((HR.out.below b1).below b3).below b2;have HV2:=Lib.hid v2;clear v2)))
 obtain⟨e1,e2,_,_,_⟩:=((((HR.out.below b1).below b3).below b2).set (.bool s2) (.slice A2 r2.length c2))
 refine bodyPost_ret (v:=.agg #[.bool s2,.slice A2 r2.length c2]) (by simp[results,Tryz.results21,go_sem,e1,e2]) rfl ?_
 have hb1:=HB.out.trans (b1.mono HB.out.size)
 have hb3:=hb1.trans (b3.mono hb1.size)
 refine RetIF.box (by omega) (((HR.out.below b1).below b3).below b2) q2 k2 (HV2.out.trans ?_) (hb3.trans (b2.mono hb3.size)) (fun a ea=>Nat.le_trans hb3.size (HF2.out a ea))
 have hle:=HL.out
 unfold ival
 rw[HV.out]
 cases s <;> simp <;> omega
theorem rbadd_F (s t:Bool)(A B:Option Addr)(c d:Nat)(xs ys:List Nat)(w:World)(h:Us w A c xs)(k:Us w B d ys)(hl:xs.length≤60000)(kl:ys.length≤60000) :
  Calls Tryz.prog 21 #[.agg #[.bool s,.slice A xs.length c],.agg #[.bool t,.slice B ys.length d]] w (RetIF (ival s xs+ival t ys) w):=by
 by_cases hst:s=t
 ·subst hst;exact rbadd_sameF s A B c d xs ys w h k hl kl
 ·obtain rfl:t = !s:=by cases s <;> cases t <;> simp_all
  rcases Nat.lt_or_ge (val xs) (val ys) with hlt|hge
  ·exact rbadd_lessF s A B c d xs ys w h k hl kl hlt
  ·exact rbadd_moreF s A B c d xs ys w h k hl kl hge
end Go.Proofs.YtikehjindobpkaaGreat

namespace Go.Proofs.YtikehjindobpkaaGreat
open Go.RowKit Nds Num
theorem Cs.cells {w:World}{A:Option Addr}{c:Nat}{l:List Cv}{ad:Addr}(h:Cs w A c l)(e:A=some ad):∀j u,(cvcs l)[j]?=some u→w.cell? (ad.add j)=some u:=by
 intro j u hu
 have hj:=(List.getElem?_eq_some_iff.1 hu).1
 rw[cvcs_len] at hj
 obtain⟨b,off,e2,_,hc⟩:=h.at_ (by omega)
 rw[e] at e2
 cases e2
 obtain⟨i,k,rfl,hk⟩:∃i k,j=i*5+k∧k<5:=⟨j / 5,j%5,by omega,by omega⟩
 have hi:i<l.length:=by omega
 rw[cvcs_at l i k hi hk] at hu
 obtain⟨h0,h1,h2,h3,h4⟩:=hc i hi
 have hadd:(⟨b,off,none⟩:Addr).add (i*5+k)=⟨b,off+i*5+k,none⟩:=by
  unfold Addr.add
  split
  ·rename_i h;rw[show off+i*5+k=off by omega]
  ·simp;omega
 rw[hadd]
 match k,hk with
 | 0,_=>exact h0.trans hu
 | 1,_=>exact h1.trans hu
 | 2,_=>exact h2.trans hu
 | 3,_=>exact h3.trans hu
 | 4,_=>exact h4.trans hu
theorem run_append_cs (w:World)(base:Nat)(v:Value)(xs ys:List Cv)(ty:TypeId)(A:Option Addr)(m c:Nat)(how:OwnC w base v xs)(hN:Cs w A c ys)(hm:ys.length=m)(hA:A=none→c=0)(hs:xs.length+m≤1000000)(hb:base≤w.heap.size) :
  ∃v' w',(Builtin.append_ #[22,22] ty #[v,.slice A m c]).run Tryz.prog w=.ok v' w'∧OwnC w' base v' (xs++ys)∧w.grownBy w' v.ownBlock∧(v'.ownBlock=v.ownBlock∨v'.ownBlock=some w.heap.size):=by
 obtain⟨i0,hi,hz0,hz1,hz2⟩:=info_parts Tryz.infoC
 cases A with
 | none =>
  have hc:=hA rfl
  have hy:ys=[]:=by
   rcases Nat.eq_zero_or_pos ys.length with h|h
   ·exact List.eq_nil_of_length_eq_zero h
   ·obtain⟨b,off,e,_⟩:=hN.at_ h
    cases e
  subst hy;subst hc;subst hm;refine⟨v,w,run_append_owned_none (P:=Tryz.prog) (w:=w) base _ ty 83 i0 5 Tryz.underlying22 hi v _ _ how,?_,⟨rfl,rfl,rfl,Nat.le_refl _,fun _ _ _=>rfl⟩,.inl rfl⟩
  rw[List.append_nil];exact how
 | some ad=>exact run_append_cells w base v xs ys ty ad m c how (hN.cells rfl) hm hs hb
theorem wpList_append_cs (w:World){ops:Array Oper}{rest:List Oper}{o:Oper}{a:Act}{Q:Exit→Act→World→Prop}(hg:o.guard=none)(s x:Operand)
  (hop:o.op=Op.call { callee:=Callee.builtin Builtin.append,args:=#[s,x],argTypes:=#[22,22] }) (base:Nat) (v:Value) (xs ys:List Cv) (A:Option Addr) (m c:Nat)
  (hs:a.eval s=v) (hx:a.eval x=.slice A m c) (how:OwnC w base v xs) (hN:Cs w A c ys) (hm:ys.length=m) (hA:A=none→c=0) (hsz:xs.length+m≤1000000) (hb:base≤w.heap.size)
  (hK:∀v' w',OwnC w' base v' (xs++ys)→w.grownBy w' v.ownBlock→(v'.ownBlock=v.ownBlock∨v'.ownBlock=some w.heap.size)→wpList Tryz.prog ops Q rest (a.put o.dst v') w') :
  wpList Tryz.prog ops Q (o :: rest) a w:=by
 refine wpList_plain hg fun K hK'=>?_
 obtain⟨v',w',hrun,h1,h2,h3⟩:=run_append_cs w base v xs ys o.type A m c how hN hm hA hsz hb
 unfold Oper.wp execOp
 simp only[hop,resolve,invoke,builtin,Sem.run_bind,Sem.run_pure,Result.andThen_ok,List.map_toArray,List.map_cons,List.map_nil,hs,hx,hrun]
 exact hK' _ _ (hK v' w' h1 h2 h3)
theorem len_near {s:Bool}{xs:List Nat}{z:Int}(hc:CanonI s xs)(hv:ival s xs=z)(h0 : -p2 1330≤z)(h1:z≤p2 1330):xs.length≤50:=by
 refine len_ival hc hv 50 ?_
 obtain⟨M,hM⟩:∃M,M=50:=⟨_,rfl⟩
 obtain⟨N,hN⟩:∃N,N=1330:=⟨_,rfl⟩
 rw[←hN] at h0 h1
 have h2:(p2 N).natAbs<4294967296^M:=by
  unfold p2;rw[show((2:Int)^N).natAbs=2^N by rw[Int.natAbs_pow];rfl,show(4294967296:Nat)=2^32 by decide,←Nat.pow_mul]
  exact Nat.pow_lt_pow_right (by decide) (by omega)
 rw[←hM]
 omega
end Go.Proofs.YtikehjindobpkaaGreat
