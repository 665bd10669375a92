import Derived.Test.YtfjajpnfjjdnpaaGreatDoorUClQ
import Derived.Test.YtfjajpnfjjdnpaaGreatDoorLaid

set_option linter.unusedVariables false
set_option linter.unusedSimpArgs false
set_option maxRecDepth 100000
set_option maxHeartbeats 6400000
namespace Go.Proofs.YtfjajpnfjjdnpaaGreatDoor
open Nds
theorem zhs {l:List Cl}(h:l.Pairwise (fun a b=>¬ (a.x=b.x∧a.y=b.y)))(x y:Int):zgx l x y=lk l x y:=by
 suffices hk:∀k,k≤l.length→zgx (l.take k) x y=lk (l.take k) x y by
  have:=hk l.length (Nat.le_refl _)
  rwa [List.take_of_length_le (Nat.le_refl _)] at this
 intro k
 induction k with
 | zero=>exact fun _=>rfl
 | succ k ih =>
  intro hk;rw[List.take_succ_eq_append_getElem (by omega),zfE,ih (by omega),zlr];have hp:∀d∈l.take k,¬ (d.x=l[k].x∧d.y=l[k].y):=fun d hd=>by
   obtain⟨i,hi,rfl⟩:=List.getElem_of_mem hd;rw[List.length_take] at hi;rw[List.getElem_take];exact List.pairwise_iff_getElem.1 h i k _ _ (by omega)
  by_cases hc:l[k].x=x∧l[k].y=y
  ·rw[if_pos hc,if_neg (fun⟨d,hd,e⟩=>hp d hd ⟨e.1.trans hc.1.symm,e.2.trans hc.2.symm⟩)];unfold lk;rw[if_pos hc]
  ·rw[if_neg hc];by_cases hd:∃d∈l.take k,d.x=x∧d.y=y
   ·rw[if_pos hd]
   ·rw[if_neg hd,zeM fun d hd' e=>hd ⟨d,hd',e⟩];unfold lk;rw[if_neg hc];rfl
theorem zlt (l:List Cl):Srt (zaS l):=(zdO l).1
theorem znk (l:List Cl)(x y:Int):lk (zaS l) x y=zgx l x y:=(zdO l).2.1 x y
theorem zjY {l:List Cl}(h:∀c∈l,0≤c.s∧c.s≤255):Fine (zaS l) :=
 zne (zlt l) fun c hc=>by
  obtain⟨h1,h2⟩:=(zdO l).2.2 c hc;have:=h c h2;omega
def zcz (L:List Cl)(out:List Nd):Prop :=
 ∃(t:Tr) (n:Nat),wfT (n:Int) t∧(∀k,t≠.s k)∧holT t=false∧out=(enc t []).1∧∀x y,zaR t x y=lk L x y
theorem zfH {L M:List Cl}{a b:List Nd}(h:zcz L a)(k:zcz M b)(e:∀x y,lk L x y=lk M x y):a=b:=by
 obtain⟨t,n,h1,h2,h3,rfl,h5⟩:=h;obtain⟨u,m,k1,k2,k3,rfl,k5⟩:=k;rw[zhp h1 k1 h2 k2 h3 k3 fun x y=>by rw[h5,k5,e]]
theorem zob {t:Tr}{v:Int}(hw:wfT v t)(hs:∀k,t≠.s k):∃q:Nat,wfT (q:Int) t:=by
 cases t with
 | e=>exact⟨0,trivial⟩
 | s k=>exact absurd rfl (hs k)
 | n u a b c d =>
  have h1:=hw.1;have h2:=hw.2.1;exact⟨v.toNat,by rwa [show((v.toNat:Nat):Int)=v by omega]⟩
theorem zfI {l:List Nd}(hl:zaa l=true){n:Nat}(hn:n≤l.length){L:List Cl}(h:∀x y,zaR (den l n) x y=lk L x y):zcz L (OfL l n):=by
 obtain⟨v,h1,h2,h3⟩:=zcI hl hn;obtain⟨q,hq⟩:=zob h1 h2;obtain⟨u,hu⟩:=zlh hl hn;obtain⟨p,hp⟩:=zob hu (fun k=>zhm);exact⟨_,q,hq,h2,h3,rfl,fun x y=>by rw[zeL hp];exact h x y⟩
def znl (l:List Nd):List Cl:=zcp (den l l.length) (-(p2 ((at_ l (l.length-1)).lv.toNat-1))) (-(p2 ((at_ l (l.length-1)).lv.toNat-1)))
theorem zht {l:List Nd}(hl:zaa l=true):Fine (znl l)∧∀x y,lk (znl l) x y=zaR (den l l.length) x y:=by
 unfold znl;rcases Nat.eq_zero_or_pos l.length with h0|h0
 ·rw[h0,zal];exact⟨⟨fun c hc=>absurd hc (List.not_mem_nil),List.Pairwise.nil⟩,fun x y=>rfl⟩
 ·obtain⟨p,hp⟩:∃p,l.length=p+1:=⟨l.length-1,by omega⟩;rw[hp,Nat.add_sub_cancel];have hw:=zcx hl p (by omega);have hv:=zao (zae hl (i:=p) (by omega));obtain⟨n,hn⟩:∃n:Nat,(at_ l p).lv=(n:Int):=⟨_,(Int.toNat_of_nonneg (by omega)).symm⟩;rw[hn] at hw ⊢;rw[Int.toNat_natCast];obtain⟨h1,h2,h3⟩:=zbV (den l (p+1)) n (-(p2 (n-1))) (-(p2 (n-1))) hw;refine⟨h1,fun x y=>?_⟩;rw[h3];unfold zaR;generalize den l (p+1)=t at hw;cases t with
  | e=>rfl
  | s k =>
   have:=hw.1;omega
  | n v a b c d =>
   have e:v=(n:Int):=hw.1.symm;subst e;show zad _ _ _=zad _ (x+p2 ((n:Int).toNat-1)) (y+p2 ((n:Int).toNat-1));rw[Int.toNat_natCast,show x - -(p2 (n-1))=x+p2 (n-1) by omega,show y - -(p2 (n-1))=y+p2 (n-1) by omega]
def zhu (l:List Nd):List Cl:=zaS (znl l)
theorem znm {l:List Nd}(hl:zaa l=true)(x y:Int):lk (zhu l) x y=zaR (den l l.length) x y:=by
 unfold zhu;rw[znk,zhs (zht hl).1.2,(zht hl).2]
theorem zeP {l:List Nd}(hl:zaa l=true):zcz (zhu l) (OfL l l.length):=zfI hl (Nat.le_refl _) fun x y=>(znm hl x y).symm
end Go.Proofs.YtfjajpnfjjdnpaaGreatDoor

namespace Go.Proofs.YtfjajpnfjjdnpaaGreatDoor
open Go.RowKit Nds
def CvR (v:Cv):Prop:=zaD v.sx v.xs∧zaD v.sy v.ys∧v.xs.length≤60000∧v.ys.length≤60000
end Go.Proofs.YtfjajpnfjjdnpaaGreatDoor

namespace Go.Proofs.YtfjajpnfjjdnpaaGreatDoor
open Go.RowKit Nds Num Go.Sort
def encC (v:Cv):List Value:=[.bool v.sx,.slice v.ax v.xs.length v.cx,.bool v.sy,.slice v.ay v.ys.length v.cy,.int .u8 v.st]
theorem zlu {w w':World}{blk:Nat}{A:Option Addr}{c:Nat}{xs:List Nat}(h:Us w A c xs)(hk:∀k,k<w.heap.size→k≠blk→w'.heap[k]?=w.heap[k]?)(hs:w.heap.size≤w'.heap.size)(ha:0<xs.length→∀a,A=some a→a.block≠blk):Us w' A c xs:=by
 obtain⟨h1,h2,h3,h4⟩:=h;refine⟨h1,h2,h3,fun hn=>?_⟩;obtain⟨b,off,e,hb,hc⟩:=h4 hn;have hne:b≠blk:=ha (by simpa using hn) _ e;exact⟨b,off,e,Nat.lt_of_lt_of_le hb hs,fun j u hu=>(World.cell?_of_block (a:=⟨b,off+j,none⟩) (hk b hb hne)).trans (hc j u hu)⟩
theorem zbn {w:World}{A:Option Addr}{c:Nat}{xs:List Nat}(h:Us w A c xs)(hx:0<xs.length):∀a,A=some a→a.block<w.heap.size:=fun a e=>by
 obtain⟨b,off,e',hb,_⟩:=h.at_ hx
 rw[e] at e';cases e';exact hb
theorem gbN {w w':World}(h:Below w.heap.size w w'):w.grownBy w' none:=⟨h.os,h.tape,h.output,h.size,fun k hk _=>h.block k hk⟩
theorem znn (v:Cv):∀x∈encC v,x.oneCell'=true:=by
 intro x hx;simp only[encC,List.mem_cons,List.not_mem_nil,or_false] at hx;rcases hx with rfl|rfl|rfl|rfl|rfl <;> rfl
theorem zgA {l:List Cv}{i:Nat}(h:i<l.length):cat l i=l[i]:=by
 unfold cat;rw[List.getElem?_eq_getElem h];rfl
theorem zjp {a b:Int}:ordI a b<0↔a<b:=by
 unfold ordI;split
 ·constructor <;> intro <;> omega
 ·split
  ·constructor <;> intro <;> omega
  ·constructor <;> intro <;> omega
theorem zcA {a b:Int}:ordI a b=0↔a=b:=by
 unfold ordI;split
 ·constructor <;> intro <;> omega
 ·split
  ·constructor <;> intro <;> omega
  ·constructor <;> intro <;> omega
end Go.Proofs.YtfjajpnfjjdnpaaGreatDoor
