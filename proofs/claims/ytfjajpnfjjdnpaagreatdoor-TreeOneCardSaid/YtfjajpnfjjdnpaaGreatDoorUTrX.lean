import Derived.Test.YtfjajpnfjjdnpaaGreatDoorLaidW
import Derived.Test.YtfjajpnfjjdnpaaGreatDoorURuSp

set_option linter.unusedVariables false
set_option linter.unusedSimpArgs false
set_option maxRecDepth 100000
set_option maxHeartbeats 6400000
namespace Go.Proofs.YtfjajpnfjjdnpaaGreatDoor
open Go.RowKit Num Nds Txt
theorem zmq {c:UInt8}(h:Digs.isd c=false)(n:Nat):c∉Digs.digs n:=fun k=>by
 have:=Digs.digs_isd n c k;rw[h] at this;cases this
theorem zdG {n m:Nat}(e:Digs.digs n=Digs.digs m):n=m:=by rw[←Digs.num_digs n,e,Digs.num_digs]
end Go.Proofs.YtfjajpnfjjdnpaaGreatDoor

namespace Go.Proofs.YtfjajpnfjjdnpaaGreatDoor
open Nds
theorem zpm (l:List Nd)(x:Nd){i:Nat}(hi:i<(l++[x]).length):(i<l.length∧Nds.at_ (l++[x]) i=Nds.at_ l i)∨(i=l.length∧Nds.at_ (l++[x]) i=x):=by
 rw[List.length_append,List.length_cons,List.length_nil] at hi;rcases Nat.lt_or_ge i l.length with h|h
 ·exact .inl ⟨h,zeJ h⟩
 ·obtain rfl:i=l.length:=by omega
  exact .inr ⟨rfl,zbC _ _⟩
theorem zmr {l:List Nd}{t:Nd}(h:∀i,i<l.length→(Nds.at_ l i).lv≤t.lv):∀k,(∀i,i<(wdK l t k).1.length→(Nds.at_ (wdK l t k).1 i).lv≤t.lv)∧(wdK l t k).2.lv=t.lv+1
 | 0=>⟨h,rfl⟩
 | k+1=>by
  have ih:=zmr h k;unfold wdK;split
  ·exact ih
  ·refine⟨fun i hi=>?_,by rw[zju];exact ih.2⟩;rcases zpm _ _ hi with⟨h1,h2⟩|⟨h1,h2⟩
   ·rw[h2];exact ih.1 i h1
   ·rw[h2,zju];exact Int.le_refl _
def TopL (l:List Nd):Prop:=∀i,i<l.length→(Nds.at_ l i).lv≤(Nds.at_ l (l.length-1)).lv
def LowL (l:List Nd):Prop:=∀i,i+1<l.length→(Nds.at_ l i).lv<(Nds.at_ l (l.length-1)).lv
theorem LowL.top {l:List Nd}(h:LowL l):TopL l:=fun i hi=>by
 rcases Nat.lt_or_ge (i+1) l.length with h1|h1
 ·exact Int.le_of_lt (h i h1)
 ·rw[show i=l.length-1 by omega];exact Int.le_refl _
theorem zjG {l:List Nd}(h:TopL l):LowL (zcZ l):=fun i hi=>by
 obtain⟨h1,h2⟩:=zmr (t:=Nds.at_ l (l.length-1)) h 4;unfold zcZ at hi ⊢;have e:∀(o:List Nd) (x:Nd),(o++[x]).length-1=o.length:=fun o x=>by simp
 rw[e,zbC,h2];rw[List.length_append,List.length_cons,List.length_nil] at hi;rw[zeJ (by omega)];have:=h1 i (by omega);omega
theorem zgV:∀(d:Nat) {l:List Nd},TopL l→0<d→LowL (zfk d l)
 | 0,l,h,hd=>absurd hd (Nat.lt_irrefl 0)
 | d+1,l,h,_=>by
  unfold zfk;rcases Nat.eq_zero_or_pos d with h0|h0
  ·subst h0;exact zjG h
  ·exact zgV d (zjG h).top h0
theorem zff {l:List Nd}{v:Int}:∀k,(∀i,i<k→(Nds.at_ l i).lv<v)→zai l v k=[]
 | 0,_=>rfl
 | k+1,h=>by
  unfold zai;rw[if_pos (h k (by omega))];exact zff k fun i hi=>h i (by omega)
theorem ziv {l:List Nd}{v:Int}{p:Nat}(hp:l.length=p+1)(h:LowL l)(hv:(Nds.at_ l p).lv=v):zai l v l.length=[zbd l v p]:=by
 rw[hp];unfold zai;have h1:∀i,i<p→(Nds.at_ l i).lv<v:=fun i hi=>by
  have:=h i (by omega);rw[show l.length-1=p by omega,hv] at this;exact this
 rw[if_neg (by omega),zff p h1];rfl
end Go.Proofs.YtfjajpnfjjdnpaaGreatDoor

namespace Go.Proofs.YtfjajpnfjjdnpaaGreatDoor
open Go.RowKit Nds Lib
theorem zfV {l:List Nd}(hl:zaa l=true):∀{m:Nat} {n x y:Int},m≤3→kidB l ((m:Int)+1) n=true→0≤getF m l n x y
 | 0,n,x,y,_,hn=>by
  have h:=of_decide_eq_true hn;exact h.1
 | m+1,n,x,y,hm,hn=>by
  obtain⟨h1,h2,h3⟩:=zjv hl (by omega) hn;unfold getF;split
  ·exact Int.le_refl _
  ·exact zfV hl (by omega) (by have:=zag h1 (zpG (p2 m) x y);rwa [h2] at this)
end Go.Proofs.YtfjajpnfjjdnpaaGreatDoor

namespace Go.Proofs.YtfjajpnfjjdnpaaGreatDoor
open Go.RowKit Num Nds Lib
theorem zfW {q:List Nd}(hq:zcQ q=true)(h0:q≠[])(hm:zaq q≤1)(hv:(Nds.at_ q (q.length-1)).lv<3) :
  0<(zaP 3 q).length∧kidB (zaP 3 q) 4 ((zaP 3 q).length:Int)=true∧zbb q=[zcl (zaP 3 q) ((zaP 3 q).length:Int)]:=by
 have hl:=zdM hq;have hn:0<q.length:=List.length_pos_iff.2 h0;have h1:=zaY hl (i:=q.length-1) (by omega);obtain⟨m,hm1⟩:∃m:Nat,(Nds.at_ q (q.length-1)).lv=(m:Int)+1:=⟨(Nds.at_ q (q.length-1)).lv.toNat-1,by omega⟩;obtain⟨d,hd⟩:∃d,d=3-(Nds.at_ q (q.length-1)).lv.toNat:=⟨_,rfl⟩;have hg:zaP 3 q=zfk d q:=by
  unfold zaP;rw[if_neg (by omega),hd]
 obtain⟨g1,-⟩:=zdA d hl hn hm1 (by omega);have htop:TopL q:=fun i hi=>by
  rcases zja hq h0 hi with e|⟨h2,-⟩
  ·rw[show i=q.length-1 by omega];exact Int.le_refl _
  ·omega
 have hlow:=zgV d htop (by omega);rw[←hg] at hlow;have hroot:(Nds.at_ (zaP 3 q) ((zaP 3 q).length-1)).lv=3:=by
  rw[hg,g1.lv];omega
 obtain⟨p,hp⟩:∃p,(zaP 3 q).length=p+1:=⟨(zaP 3 q).length-1,by have:=g1.pos;rw[←hg] at this;omega⟩;rw[show(zaP 3 q).length-1=p by omega] at hroot;refine⟨by omega,?_,?_⟩
 ·rw[hp,show((p+1:Nat):Int)=(p:Int)+1 by omega,zbx _ 4 p (by omega) (by omega)];exact decide_eq_true (by omega)
 ·unfold zbb;rw[if_pos hm,ziv hp hlow hroot,hp];unfold zbd;rw[if_neg (by omega),if_pos rfl];rfl
theorem zhI {q:List Nd}(hl:zaa q=true)(h:¬ (zaq q≤1∧q≠[]∧(Nds.at_ q (q.length-1)).lv<3)):zbb q=zai q (VQ q) q.length:=by
 unfold zbb VQ;by_cases hm:zaq q≤1
 ·rw[if_pos hm,if_pos hm];have hg:zaP 3 q=q:=by
   unfold zaP;split
   ·rename_i h0;exact(List.eq_nil_of_length_eq_zero h0).symm
   ·rename_i h0;have h1:q≠[]:=fun e=>h0 (by rw[e];rfl);have h2:¬ (Nds.at_ q (q.length-1)).lv<3:=fun h2=>h ⟨hm,h1,h2⟩;rw[show 3-(Nds.at_ q (q.length-1)).lv.toNat=0 by omega];rfl
  rw[hg]
 ·rw[if_neg hm,if_neg hm]
theorem zdH {q:List Nd}{i:Nat}(h:(Nds.at_ q i).lv=3):zbd q 3 i=zcl q ((i:Int)+1):=by
 unfold zbd;rw[if_neg (by omega),if_pos rfl]
theorem zcO {l:List Nd}{v:Int}{r:List UInt8}:∀k,r∈zai l v k→∃i,i<k∧r=zbd l v i
 | 0,h=>by cases h
 | k+1,h=>by
  unfold zai at h;split at h
  ·obtain⟨i,hi,e⟩:=zcO k h;exact⟨i,by omega,e⟩
  ·rcases List.mem_append.1 h with h1|h1
   ·obtain⟨i,hi,e⟩:=zcO k h1;exact⟨i,by omega,e⟩
   ·exact⟨k,by omega,List.mem_singleton.1 h1⟩
end Go.Proofs.YtfjajpnfjjdnpaaGreatDoor
