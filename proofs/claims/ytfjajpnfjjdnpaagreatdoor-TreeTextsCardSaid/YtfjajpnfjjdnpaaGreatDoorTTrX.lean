import Derived.Test.YtfjajpnfjjdnpaaGreatDoorTFtQ
import Derived.Test.YtfjajpnfjjdnpaaGreatDoorLaidW

set_option linter.unusedVariables false
set_option linter.unusedSimpArgs false
set_option maxRecDepth 100000
set_option maxHeartbeats 6400000
namespace Go.Proofs.YtfjajpnfjjdnpaaGreatDoor
open Go.RowKit Lib
theorem Tryz.infoTs:(Tryz.prog.info? 9).map (fun i=>(i.zero,i.size,i.bytes))=some (some (.string ⟨#[]⟩),1,16):=by kernel_rfl
def OwS (W:World)(base:Nat)(v:Value)(n:Nat)(L:List (List UInt8)):Prop:=L.length=n∧W.ownsRow base 9 1 v n (L.map strV)
theorem OwS.nil (W:World)(base:Nat):OwS W base (.slice none 0 0) 0 []:=⟨rfl,World.ownsRow_nil _ _ _ 1⟩
theorem OwS.shape {W:World}{base n:Nat}{v:Value}{L:List (List UInt8)}(h:OwS W base v n L):∃A c,v=.slice A n c:=zdk h.2
theorem OwS.more {W:World}{base n:Nat}{v:Value}{L:List (List UInt8)}{t:List UInt8}(h:L.length=n)(k:W.ownsRow base 9 1 v (n+1) (L.map strV++[strV t])):OwS W base v (n+1) (L++[t]) :=
 ⟨by rw[List.length_append,h];rfl,by rw[List.map_append];exact k⟩
theorem OwS.next {W W':World}{base n:Nat}{v:Value}{L:List (List UInt8)}(h:OwS W base v n L)(k:Below W.heap.size W W'):OwS W' base v n L :=
 ⟨h.1,h.2.1,by
  rcases h.2.2 with h2|⟨g,cap,cur,hv,r1,r2,r3⟩
  ·exact .inl h2
  ·exact .inr ⟨g,cap,cur,hv,r1,(k.block _ (Array.getElem?_eq_some_iff.1 r2).1).trans r2,r3⟩⟩
end Go.Proofs.YtfjajpnfjjdnpaaGreatDoor

namespace Go.Proofs.YtfjajpnfjjdnpaaGreatDoor
open Nds
theorem zpo (l:List Nd)(x:Nd){i:Nat}(hi:i<(l++[x]).length):(i<l.length∧Nds.at_ (l++[x]) i=Nds.at_ l i)∨(i=l.length∧Nds.at_ (l++[x]) i=x):=by
 rw[List.length_append,List.length_cons,List.length_nil] at hi;rcases Nat.lt_or_ge i l.length with h|h
 ·exact .inl ⟨h,zeT h⟩
 ·obtain rfl:i=l.length:=by omega
  exact .inr ⟨rfl,zbY _ _⟩
theorem zmq {l:List Nd}{t:Nd}(h:∀i,i<l.length→(Nds.at_ l i).lv≤t.lv):∀k,(∀i,i<(wdK l t k).1.length→(Nds.at_ (wdK l t k).1 i).lv≤t.lv)∧(wdK l t k).2.lv=t.lv+1
 | 0=>⟨h,rfl⟩
 | k+1=>by
  have ih:=zmq h k;unfold wdK;split
  ·exact ih
  ·refine⟨fun i hi=>?_,by rw[zjq];exact ih.2⟩;rcases zpo _ _ hi with⟨h1,h2⟩|⟨h1,h2⟩
   ·rw[h2];exact ih.1 i h1
   ·rw[h2,zjq];exact Int.le_refl _
def TopL (l:List Nd):Prop:=∀i,i<l.length→(Nds.at_ l i).lv≤(Nds.at_ l (l.length-1)).lv
def LowL (l:List Nd):Prop:=∀i,i+1<l.length→(Nds.at_ l i).lv<(Nds.at_ l (l.length-1)).lv
theorem LowL.top {l:List Nd}(h:LowL l):TopL l:=fun i hi=>by
 rcases Nat.lt_or_ge (i+1) l.length with h1|h1
 ·exact Int.le_of_lt (h i h1)
 ·rw[show i=l.length-1 by omega];exact Int.le_refl _
theorem zjG {l:List Nd}(h:TopL l):LowL (zcw l):=fun i hi=>by
 obtain⟨h1,h2⟩:=zmq (t:=Nds.at_ l (l.length-1)) h 4;unfold zcw at hi ⊢;have e:∀(o:List Nd) (x:Nd),(o++[x]).length-1=o.length:=fun o x=>by simp
 rw[e,zbY,h2];rw[List.length_append,List.length_cons,List.length_nil] at hi;rw[zeT (by omega)];have:=h1 i (by omega);omega
theorem zjH:∀(d:Nat) {l:List Nd},TopL l→0<d→LowL (zgH d l)
 | 0,l,h,hd=>absurd hd (Nat.lt_irrefl 0)
 | d+1,l,h,_=>by
  unfold zgH;rcases Nat.eq_zero_or_pos d with h0|h0
  ·subst h0;exact zjG h
  ·exact zjH d (zjG h).top h0
theorem zfl {l:List Nd}{v:Int}:∀k,(∀i,i<k→(Nds.at_ l i).lv<v)→zaj l v k=[]
 | 0,_=>rfl
 | k+1,h=>by
  unfold zaj;rw[if_pos (h k (by omega))];exact zfl k fun i hi=>h i (by omega)
theorem zin {l:List Nd}{v:Int}{p:Nat}(hp:l.length=p+1)(h:LowL l)(hv:(Nds.at_ l p).lv=v):zaj l v l.length=[zbn l v p]:=by
 rw[hp];unfold zaj;have h1:∀i,i<p→(Nds.at_ l i).lv<v:=fun i hi=>by
  have:=h i (by omega);rw[show l.length-1=p by omega,hv] at this;exact this
 rw[if_neg (by omega),zfl p h1];rfl
end Go.Proofs.YtfjajpnfjjdnpaaGreatDoor

namespace Go.Proofs.YtfjajpnfjjdnpaaGreatDoor
open Go.RowKit Nds Lib
theorem zfY {l:List Nd}(hl:zaa l=true):∀{m:Nat} {n x y:Int},m≤3→kidB l ((m:Int)+1) n=true→0≤getF m l n x y
 | 0,n,x,y,_,hn=>by
  have h:=of_decide_eq_true hn;exact h.1
 | m+1,n,x,y,hm,hn=>by
  obtain⟨h1,h2,h3⟩:=zjr hl (by omega) hn;unfold getF;split
  ·exact Int.le_refl _
  ·exact zfY hl (by omega) (by have:=zag h1 (zpM (p2 m) x y);rwa [h2] at this)
theorem zcT {hf x:Nat}(h:x<2*hf):x / hf≤1∧(x / hf=if x<hf then 0 else 1)∧x%hf=if x<hf then x else x-hf:=by
 have h0:0<hf:=by omega
 by_cases h1:x<hf
 ·rw[if_pos h1,if_pos h1,Nat.div_eq_of_lt h1,Nat.mod_eq_of_lt h1];exact⟨by omega,rfl,rfl⟩
 ·rw[if_neg h1,if_neg h1];have e:x=hf*1+(x-hf):=by omega
  have h2:x-hf<hf:=by omega
  have d:x / hf=1:=by
   rw[e,Nat.mul_add_div h0,Nat.div_eq_of_lt (by omega)]
  have r:x%hf=x-hf:=by
   rw[Nat.mod_eq_sub_mod (by omega),Nat.mod_eq_of_lt h2]
  exact⟨by omega,d,r⟩
theorem znK {m hf x y:Nat}(hh:(hf:Int)=p2 m)(hx:x<2*hf)(hy:y<2*hf) :
  qtI (p2 m) x y=2*(y / hf)+x / hf∧subI (p2 m) x=((x%hf:Nat):Int)∧subI (p2 m) y=((y%hf:Nat):Int):=by
 obtain⟨-,a2,a3⟩:=zcT hx;obtain⟨-,b2,b3⟩:=zcT hy;rw[a2,a3,b2,b3,←hh];unfold qtI subI;by_cases h1:x<hf
 ·by_cases h2:y<hf
  ·rw[if_pos (show(x:Int)<hf by omega),if_pos (show(y:Int)<hf by omega),if_pos h1,if_pos h2,if_pos h1,if_pos h2,if_pos (show(x:Int)<hf by omega),if_pos (show(y:Int)<hf by omega)];exact⟨rfl,rfl,rfl⟩
  ·rw[if_pos (show(x:Int)<hf by omega),if_neg (show ¬ (y:Int)<hf by omega),if_pos h1,if_neg h2,if_pos h1,if_neg h2,if_pos (show(x:Int)<hf by omega),if_neg (show ¬ (y:Int)<hf by omega)];exact⟨rfl,rfl,by omega⟩
 ·by_cases h2:y<hf
  ·rw[if_neg (show ¬ (x:Int)<hf by omega),if_pos (show(y:Int)<hf by omega),if_neg h1,if_pos h2,if_neg h1,if_pos h2,if_neg (show ¬ (x:Int)<hf by omega),if_pos (show(y:Int)<hf by omega)];exact⟨rfl,by omega,rfl⟩
  ·rw[if_neg (show ¬ (x:Int)<hf by omega),if_neg (show ¬ (y:Int)<hf by omega),if_neg h1,if_neg h2,if_neg h1,if_neg h2,if_neg (show ¬ (x:Int)<hf by omega),if_neg (show ¬ (y:Int)<hf by omega)];exact⟨rfl,by omega,by omega⟩
theorem zpp {f:FuncId}{args:Array Value}{w:World}{n:Nat}{v:Value}(h:Calls Tryz.prog f args (w.drewN n) fun e w'=>e=.returned v∧∃q,w'=(w.drewN n).drewN q):Calls Tryz.prog f args (w.drewN n) fun e w''=>e=.returned v∧∃m,w''=w.drewN m :=
 h.mono fun _ _ ⟨he,q,hq⟩=>⟨he,_,hq.trans (World.drewN_drewN _ _ _)⟩
def zmr (l:List Nd)(m:Nat)(n:Int)(x y:Nat)(w:World)(e:Ending)(w':World):Prop:=e=.returned (.bool (decide (0<getF m l n x y)))∧∃q,w'=w.drewN q
theorem zjI (A:Option Addr)(c N:Nat)(l:List Nd)(hN:l.length=N)(hN9:N≤1000000)(hl:zaa l=true)(m:Nat)(hm:m<3)(n:Int)(x y:Nat)(w:World)(h:Ns w A c l)(hn:kidB l (((m+1:Nat):Int)+1) n=true)(hx:x<2^(m+1))(hy:y<2^(m+1))
  (ih:0<m→∀(n:Int) (x y:Nat) (w:World),Ns w A c l→kidB l ((m:Int)+1) n=true→x<2^m→y<2^m→Calls Tryz.prog 91 #[.slice A N c,.int .i64 n,.int .i64 (x:Int),.int .i64 (y:Int)] w (zmr l m n x y w)) :
  Calls Tryz.prog 91 #[.slice A N c,.int .i64 n,.int .i64 (x:Int),.int .i64 (y:Int)] w (zmr l (m+1) n x y w):=by
 have hcap:=h.cap;rw[hN] at hcap;unfold zmr;by_cases hn0:n=0
 ·subst hn0;have e0:getF (m+1) l 0 x y=0:=if_pos rfl;rw[e0];clear h hn ih;go_enter Tryz.func91,Tryz.ntmps91;go_wp2_with fail;go_ret;exact⟨rfl,0,rfl⟩
 ·obtain⟨p,hp,hpl,hlv⟩:∃p:Nat,n=(p:Int)+1∧p<l.length∧(Nds.at_ l p).lv=(m:Int)+1:=by
   have h1:=hn;unfold kidB at h1;rw[if_neg (by omega)] at h1;rcases of_decide_eq_true h1 with e|⟨h2,h3,h4⟩
   ·exact absurd e hn0
   ·refine⟨n.toNat-1,by omega,by omega,?_⟩;rw[h4];omega
  subst hp;obtain⟨hf,hhf⟩:∃hf,hf=2^m:=⟨_,rfl⟩;have hf1:1≤hf∧hf≤4:=by
   rw[hhf];rcases(show m=0∨m=1∨m=2 by omega) with rfl|rfl|rfl <;> decide
  have hp2:(hf:Int)=p2 m:=by rw[hhf];unfold p2;simp
  have hx2:x<2*hf:=by rw[hhf,Nat.pow_succ] at *;omega
  have hy2:y<2*hf:=by rw[hhf,Nat.pow_succ] at *;omega
  obtain⟨g1,g2,g3⟩:=znK hp2 hx2 hy2;obtain⟨x1,-,-⟩:=zcT hx2;obtain⟨y1,-,-⟩:=zcT hy2;obtain⟨xq,hxq⟩:∃q,q=x / hf:=⟨_,rfl⟩;obtain⟨yq,hyq⟩:∃q,q=y / hf:=⟨_,rfl⟩;obtain⟨xr,hxr⟩:∃q,q=x%hf:=⟨_,rfl⟩;obtain⟨yr,hyr⟩:∃q,q=y%hf:=⟨_,rfl⟩;have hxr9:xr<hf:=by rw[hxr];exact Nat.mod_lt _ (by omega)
  have hyr9:yr<hf:=by rw[hyr];exact Nat.mod_lt _ (by omega)
  rw[←hxq,←hyq] at g1;rw[←hxr] at g2;rw[←hyr] at g3;rw[←hxq] at x1;rw[←hyq] at y1;obtain⟨u,hu⟩:∃u,u=(Nds.at_ l p).kid (2*yq+xq):=⟨_,rfl⟩;have hfit:=zad hl hpl;have huk:kidB l ((m:Int)+1) u=true:=by
   have:=zag hfit (show 2*yq+xq<4 by omega);rw[hlv] at this;rw[hu];exact this
  have hget:getF (m+1) l ((p:Int)+1) x y=getF m l u xr yr:=by
   show(if (p:Int)+1=0 then 0 else getF m l ((zdE m l ((p:Int)+1)).kid (qtI (p2 m) x y)) (subI (p2 m) x) (subI (p2 m) y))=_;rw[if_neg (by omega),g1,g2,g3,hu];have e:zdE m l ((p:Int)+1)=Nds.at_ l p:=by
    unfold zdE;rw[if_neg (by omega),show((p:Int)+1-1).toNat=p by omega]
   rw[e]
  obtain⟨R,hR⟩:∃R,R=decide (0<getF m l u xr yr):=⟨_,rfl⟩;rw[hget,←hR];have HR:=Hh hR;clear hR;obtain⟨b,off,rfl,hb,hcc⟩:=h.at_ (by omega)
  have c0:=(hcc p hpl).1;have c1:=(hcc p hpl).kid (show 2*yq+xq<4 by omega);rw[hlv] at c0;rw[←hu] at c1;have hpN:p<N:=by rw[←hN];exact hpl
  have i0:(0:Int)≤(p:Int):=by omega
  have i1:(p:Int)<(N:Int):=by omega
  have d1:Int.tdiv (y:Int) (hf:Int)=(yq:Int):=by rw[Int.tdiv_eq_ediv_of_nonneg (by omega),hyq];simp
  have d2:Int.tdiv (x:Int) (hf:Int)=(xq:Int):=by rw[Int.tdiv_eq_ediv_of_nonneg (by omega),hxq];simp
  have d3:Int.tmod (y:Int) (hf:Int)=(yr:Int):=by rw[Int.tmod_eq_emod_of_nonneg (by omega),hyr];simp
  have d4:Int.tmod (x:Int) (hf:Int)=(xr:Int):=by rw[Int.tmod_eq_emod_of_nonneg (by omega),hxr];simp
  have z1:((hf:Int)==0)=false:=beq_eq_false_iff_ne.2 (by omega);have z2:(hf=0)=False:=eq_false (by omega);have HH:=Hh h;have HG:=Hh (show hf=2^m from hhf);have HU:=Hh huk;have HIH:=Hh ih;clear h hn ih hn0 hhf hxq hyq hxr hyr hu huk hget g1 g2 g3 hfit hlv hcc hp2 hb hpl;go_enter Tryz.func91,Tryz.ntmps91;go_wp2_with fail;go_loopw [10,9] (fun z1 z2 wr=>∃(k:Nat),z1=.int .i64 ((k:Int)+1)∧z2=.int .i64 ((2^k:Nat):Int)∧k≤m∧wr=w) (fun z1 _ _=>m+1-(intOf z1).toNat)
  case atStart=>exact⟨0,rfl,rfl,Nat.zero_le _,rfl⟩
  case round =>
   obtain⟨k,rfl,rfl,hk,rfl⟩:=hrel;by_cases hlt:k<m
   ·have t1:decide ((k:Int)+1<(m:Int)+1)=true:=decide_eq_true (by omega);have kw:IntKind.i64.wrap ((k:Int)+1+1)=((k+1:Nat):Int)+1:=by
     rw[show((k+1:Nat):Int)+1=(k:Int)+1+1 by omega];exact IntWalk.i64_in _ (by omega)
    have hw:IntKind.i64.wrap (((2^k:Nat):Int)*2)=((2^(k+1):Nat):Int):=by
     rcases(show k=0∨k=1 by omega) with rfl|rfl <;> rfl
    obtain⟨pk,hpk⟩:∃q:Nat,q=2^k:=⟨_,rfl⟩;obtain⟨pn,hpn⟩:∃q:Nat,q=2^(k+1):=⟨_,rfl⟩;rw[←hpk,←hpn] at hw;rw[←hpk];have HPN:=Hh hpn;have HLT:=Hh hlt;clear hpk hpn hlt;go_wp2_with fail;go_roundw
    case rel=>exact⟨k+1,by first|rfl|go_num,by rw[←HPN.out],HLT.out,by first|rfl|trivial⟩
    case measure=>have:=HLT.out;simp[intOf];omega
   ·obtain rfl:k=m:=by omega
    have t1:decide ((k:Int)+1<(k:Int)+1)=false:=decide_eq_false (by omega);rw[←HG.out];by_cases hm0:k=0
    ·subst hm0;go_wp2_with fail;go_quiet (fail);go_wp2_with fail;go_ret;exact⟨by rw[HR.out];rfl,_,rfl⟩
    ·have t2:(((k:Int)+1)==1)=false:=beq_eq_false_iff_ne.2 (by omega);have hx3:xr<2^k:=by rw[←HG.out];exact hxr9
     have hy3:yr<2^k:=by rw[←HG.out];exact hyr9
     have HX3:=Hh hx3;have HY3:=Hh hy3;clear hx3 hy3;go_wp2_with fail;go_quiet (fail);go_wp2_with fail;obtain⟨Wq,hWq⟩:∃W,W=wr.drewN nq:=⟨_,rfl⟩;have HHq:=Hh (show Ns Wq (some ⟨b,off,none⟩) c l by rw[hWq];exact zeG HH.out nq);rw[←hWq];have HWq:=Hh hWq;clear hWq;go_quiet (first|(go_at_call 91;exact zpp (HIH.out (by omega) u xr yr _ (zeG HHq.out _) HU.out HX3.out HY3.out)));go_wp2_with fail;go_ret;exact⟨by rw[HR.out];rfl,_,by rw[HWq.out];exact World.drewN_drewN _ _ _⟩
theorem zms (A:Option Addr)(c N:Nat)(l:List Nd)(hN:l.length=N)(hN9:N≤1000000)(hl:zaa l=true):∀(m:Nat),m<3→∀(n:Int) (x y:Nat) (w:World),Ns w A c l→kidB l (((m+1:Nat):Int)+1) n=true→x<2^(m+1)→y<2^(m+1) →
  Calls Tryz.prog 91 #[.slice A N c,.int .i64 n,.int .i64 (x:Int),.int .i64 (y:Int)] w (zmr l (m+1) n x y w)
 | 0,hm,n,x,y,w,h,hn,hx,hy=>zjI A c N l hN hN9 hl 0 hm n x y w h hn hx hy (fun h0=>absurd h0 (Nat.lt_irrefl 0))
 | m+1,hm,n,x,y,w,h,hn,hx,hy=>zjI A c N l hN hN9 hl (m+1) hm n x y w h hn hx hy (fun _ n x y w h hn hx hy=>zms A c N l hN hN9 hl m (by omega) n x y w h hn hx hy)
theorem zdR (l:List Nd)(n:Int)(y:Nat){i:Nat}(hi:i<8):(rowF l n y).take (i+1)=(rowF l n y).take i++[sgL l n y i]:=by
 have h1:(rowF l n y)[i]?=some (sgL l n y i):=by
  unfold rowF;rw[List.getElem?_map,List.getElem?_range hi];rfl
 rw[List.take_add_one,h1];rfl
theorem zdS (A:Option Addr)(c N:Nat)(l:List Nd)(n:Int)(w:World)(h:Ns w A c l)(hN:l.length=N)(hN9:N≤1000000)(hl:zaa l=true)(hn:kidB l 4 n=true) :
  Calls Tryz.prog 44 #[.slice A N c,.int .i64 n] w fun e w'=>e=.returned (.string ⟨(zbc l n).toArray⟩)∧∃q,w'=w.drewN q:=by
 have HH:=Hh h;have HON:=Hh (show ∀(x y:Nat) (w:World),Ns w A c l→x<8→y<8→Calls Tryz.prog 91 #[.slice A N c,.int .i64 n,.int .i64 (x:Int),.int .i64 (y:Int)] w (zmr l 3 n x y w) from fun x y w h hx hy=>zms A c N l hN hN9 hl 2 (by omega) n x y w h hn hx hy);have HGS:=Hh (show ∀x y:Nat,0≤getF 3 l n x y from fun x y=>zfY hl (by omega) hn);clear h hl hn;go_enter Tryz.func44,Tryz.ntmps44;go_wp2_with fail;go_loopw [7,5,6,8,9,10] (fun z1 z2 z3 z4 z5 z6 wr=>∃(k q:Nat) (v4 v5 v6:Value),z1=.int .i64 k∧z2=.string ⟨(zbu l n k).toArray⟩∧z3=.int .i64 ((zeh l n k:Nat):Int)∧v4=z4∧v5=z5∧v6=z6∧k≤8∧wr=w.drewN q) (fun z1 _ _ _ _ _ _=>8-(intOf z1).toNat)
 case atStart=>exact⟨0,0,_,_,_,rfl,rfl,rfl,rfl,rfl,rfl,Nat.zero_le _,rfl⟩
 case round =>
  obtain⟨k,q0,v4,v5,v6,rfl,rfl,rfl,rfl,rfl,rfl,hk,rfl⟩:=hrel;obtain⟨s,hs⟩:∃s:ByteArray,s=⟨(zbu l n k).toArray⟩:=⟨_,rfl⟩;have hjl:=zdJ l n k;have hll:=zgQ l n k;have hsz:s.size=(zbu l n k).length:=by rw[hs,zav]
  obtain⟨la,hla⟩:∃la,la=zeh l n k:=⟨_,rfl⟩;rw[←hs,←hla];have HS:=Hh hs;have HLA:=Hh hla;obtain⟨wo,hwo⟩:∃wo:World,wo=w.drewN q0:=⟨_,rfl⟩;have HWO:=Hh hwo;have HHO:=Hh (show Ns wo A c l by rw[hwo];exact HH.out);rw[←hwo];rw[←hla] at hll;clear hs hla hwo;by_cases hlt:k<8
  ·have kw:IntKind.i64.wrap ((k:Int)+1)=(k:Int)+1:=IntWalk.i64_in _ (by omega);have t1:decide ((k:Int)<8)=true:=decide_eq_true (by omega);have HLT:=Hh hlt;have HSZ:=Hh hsz;clear hlt hsz;go_wp2_with fail;go_loopw [10,8,9] (fun z1 z2 z3 wr=>∃(i q:Nat),z1=.int .i64 i∧z2=.string ⟨((rowF l n k).take i).toArray⟩∧z3=.int .i64 (((zaL 46 ((rowF l n k).take i)).length:Nat):Int)∧i≤8∧wr=wo.drewN q) (fun z1 _ _ _=>8-(intOf z1).toNat)
   case atStart=>exact⟨0,0,rfl,rfl,rfl,Nat.zero_le _,rfl⟩
   case round =>
    obtain⟨i,q,rfl,rfl,rfl,hi,rfl⟩:=hrel;obtain⟨t,ht⟩:∃t:ByteArray,t=⟨((rowF l n k).take i).toArray⟩:=⟨_,rfl⟩;have htz:t.size≤8:=by
     rw[ht,zav,List.length_take];omega
    obtain⟨us,hus⟩:∃us,us=(zaL 46 ((rowF l n k).take i)).length:=⟨_,rfl⟩;rw[←ht,←hus];have HTT:=Hh ht;have HUS:=Hh hus;by_cases hi8:i<8
    ·have iw:IntKind.i64.wrap ((i:Int)+1)=(i:Int)+1:=IntWalk.i64_in _ (by omega);have t2:decide ((i:Int)<8)=true:=decide_eq_true (by omega);have HI8:=Hh hi8;have z1:(9223372036854775807<t.size+(⟨#[42]⟩:ByteArray).size)=False:=eq_false (by show ¬ 9223372036854775807<t.size+1;omega);have z2:(9223372036854775807<t.size+(⟨#[46]⟩:ByteArray).size)=False:=eq_false (by show ¬ 9223372036854775807<t.size+1;omega);have hg0:=HGS.out i k;by_cases hg:getF 3 l n i k=0
     ·have HD:=Hh (show decide (0<getF 3 l n i k)=false from decide_eq_false (by omega));have hsg:sgL l n k i=46:=if_pos hg;have HNX:=Hh (show t++(⟨#[46]⟩:ByteArray)=⟨((rowF l n k).take (i+1)).toArray⟩ by
       rw[zdR l n k hi8,hsg,ht];exact zef (by simp))
      have HUN:=Hh (show us=(zaL 46 ((rowF l n k).take (i+1))).length by
       rw[zdR l n k hi8,hsg,zbe,if_pos rfl,hus])
      clear ht hus hi8 hg hg0 hsg;go_wp2_with (go_at_call 91;go_loud (refine(HON.out i k _ (zeG HHO.out q) HI8.out HLT.out).mono ?_;rintro e w2 ⟨rfl,q2,rfl⟩;rw[HD.out]));go_roundw
      case rel=>exact⟨i+1,_,by go_num,by rw[HNX.out],by rw[HUN.out],HI8.out,by first|rfl|exact World.drewN_drewN _ _ _⟩
      case measure=>have:=HI8.out;simp[intOf];omega
     ·have HD:=Hh (show decide (0<getF 3 l n i k)=true from decide_eq_true (by omega));have hsg:sgL l n k i=42:=if_neg hg;have HNX:=Hh (show t++(⟨#[42]⟩:ByteArray)=⟨((rowF l n k).take (i+1)).toArray⟩ by
       rw[zdR l n k hi8,hsg,ht];exact zef (by simp))
      have HUN:=Hh (show t.size+1=(zaL 46 ((rowF l n k).take (i+1))).length by
       rw[zdR l n k hi8,hsg,zbe,if_neg (by decide),List.length_append,ht,zav];rfl)
      have HZN:=Hh (show(((t++(⟨#[42]⟩:ByteArray)).size:Nat):Int)=((t.size+1:Nat):Int) by rw[ByteArray.size_append];rfl);clear ht hus hi8 hg hg0 hsg;go_wp2_with (go_at_call 91;go_loud (refine(HON.out i k _ (zeG HHO.out q) HI8.out HLT.out).mono ?_;rintro e w2 ⟨rfl,q2,rfl⟩;rw[HD.out]));go_roundw
      case rel=>exact⟨i+1,_,by go_num,by rw[HNX.out],by rw[←HUN.out];simp[ByteArray.size_append];try rfl,HI8.out,by first|rfl|exact World.drewN_drewN _ _ _⟩
      case measure=>have:=HI8.out;simp[intOf];omega
    ·obtain rfl:i=8:=by omega
     have hrf:(rowF l n k).take 8=rowF l n k:=List.take_of_length_le (by rw[zeE];exact Nat.le_refl _);rw[hrf] at ht hus;have hru:us=(rowL l n k).length:=hus;have htz8:t.size=8:=by rw[ht,zav,zeE]
     have hus8:us≤8:=by rw[hru];exact zeF l n k
     have i4:(0:Int)≤(us:Int)∧(us:Int)≤(t.size:Int):=by omega
     have hex:(t.extract 0 us).size=us:=by rw[←zbM,zcP,List.length_take,zbM];omega
     have z1:(9223372036854775807<s.size+(t.extract 0 us).size)=False:=eq_false (by rw[hex,HSZ.out];omega);have z2:(9223372036854775807<(s++t.extract 0 us).size+(⟨#[36]⟩:ByteArray).size)=False:=eq_false (by rw[ByteArray.size_append,hex,HSZ.out];show ¬ 9223372036854775807<_+1;omega);have z3:(9223372036854775807<s.size+(t.extract 0 us).size+(⟨#[36]⟩:ByteArray).size)=False:=eq_false (by rw[hex,HSZ.out];show ¬ 9223372036854775807<_+1;omega);have HNX:=Hh (show s++t.extract 0 us++(⟨#[36]⟩:ByteArray)=⟨(zbu l n (k+1)).toArray⟩ by
      refine zef ?_;have h1:(t.extract 0 us).data.toList=rowL l n k:=by
       rw[zcP,ht,hru];exact(zeg 46 (rowF l n k)).symm
      rw[zaY,←h1,HS.out];simp)
     have z4:(9223372036854775807<s.size)=False:=eq_false (by rw[HSZ.out];omega);have z5:(9223372036854775807<s.size+1)=False:=eq_false (by rw[HSZ.out];omega);have z6:(9223372036854775807<s.size+us)=False:=eq_false (by rw[HSZ.out];omega);have z7:(9223372036854775807<s.size+us+1)=False:=eq_false (by rw[HSZ.out];omega);by_cases hu0:us=0
     ·subst hu0;have HN0:=Hh (show s++(⟨#[36]⟩:ByteArray)=⟨(zbu l n (k+1)).toArray⟩ by
       rw[zaY,show rowL l n k=[] from List.eq_nil_of_length_eq_zero hru.symm,HS.out];exact zef (by simp))
      have HLN:=Hh (show la=zeh l n (k+1) by
       have h2:rowL l n k=[]:=List.eq_nil_of_length_eq_zero hru.symm;show la=if rowL l n k=[] then zeh l n k else _
       rw[if_pos h2,HLA.out])
      clear ht hus hru hrf hi8;go_wp2_with fail;go_roundw
      case rel=>exact⟨k+1,_,_,_,_,by go_num,by first|rw[←HN0.out]|rw[←HNX.out],by rw[HLN.out],rfl,rfl,rfl,HLT.out,by rw[HWO.out];exact World.drewN_drewN _ _ _⟩
      case measure=>have:=HLT.out;simp[intOf];omega
     ·have t3:decide ((us:Int)>0)=true:=decide_eq_true (by omega);have t4:decide (0<us)=true:=decide_eq_true (by omega);have t5:(0<us)=True:=eq_true (by omega);have HLN:=Hh (show(s++t.extract 0 us++(⟨#[36]⟩:ByteArray)).size=zeh l n (k+1) by
       have h2:rowL l n k≠[]:=fun e=>hu0 (by rw[hru,e];rfl);show _=if rowL l n k=[] then zeh l n k else (zbu l n (k+1)).length
       rw[if_neg h2,HNX.out,zav])
      have HL2:=Hh (show s.size+us+1=zeh l n (k+1) by
       rw[←HLN.out,ByteArray.size_append,ByteArray.size_append,hex];rfl)
      clear ht hus hru hrf hi8;go_wp2_with fail;go_roundw
      case rel=>exact⟨k+1,_,_,_,_,by go_num,by rw[←HNX.out],by rw[←HL2.out];simp,rfl,rfl,rfl,HLT.out,by rw[HWO.out];exact World.drewN_drewN _ _ _⟩
      case measure=>have:=HLT.out;simp[intOf];omega
  ·obtain rfl:k=8:=by omega
   have i4:(0:Int)≤(la:Int)∧(la:Int)≤(s.size:Int):=by omega
   have HEX:=Hh (show s.extract 0 la=⟨(zbc l n).toArray⟩ by
    refine zef ?_;rw[zcP,HS.out,HLA.out];exact zhA l n)
   clear hsz hlt;go_wp2_with fail;go_ret;refine⟨?_,_,HWO.out⟩;rw[←HEX.out];rfl
end Go.Proofs.YtfjajpnfjjdnpaaGreatDoor

namespace Go.Proofs.YtfjajpnfjjdnpaaGreatDoor
open Go.RowKit Num Nds Lib
theorem znL {s:Bool}{xs:List Nat}{n:Nat}(hc:zaC s xs)(hv:ival s xs=(n:Int)):Digs.text s (val xs)=Digs.digs n:=by
 unfold ival at hv;cases s with
 | false =>
  have:val xs=n:=by
   have h2:((val xs:Nat):Int)=(n:Int):=by simpa using hv
   omega
  rw[this];rfl
 | true =>
  exfalso;have h1:val xs=0:=by
   have h2 : -((val xs:Nat):Int)=(n:Int):=by simpa using hv
   omega
  exact hc.2 rfl (zcb hc.1 h1)
theorem zio (n:Nat)(w:World)(hn:n≤1000000) :
  Calls Tryz.prog 134 #[.int .i64 (n:Int)] w fun e w'=>e=.returned (.string ⟨(Digs.digs n).toArray⟩)∧Below w.heap.size w w':=by
 obtain⟨T,hT⟩:∃T:ByteArray,T=⟨(Digs.digs n).toArray⟩:=⟨_,rfl⟩;rw[←hT];have HT:=Hh hT;have HN:=Hh hn;clear hT;go_enter Tryz.func134,Tryz.ntmps134;go_wp2_with (first
  | (go_at_call 48;go_loud (refine(zev (n:Int) _ (by omega) (by omega)).mono ?_;rintro e w1 ⟨A1,c1,s1,r1,rfl,u1,k1,v1,b1⟩;have HU:=Hh u1;have HK:=Hh k1;have HV:=Hh v1;have HB:=Hh b1;clear u1 k1 v1 b1))
  | (go_at_call 59;go_loud (refine(zmp s1 A1 c1 r1 _ HU.out (by have h1:=zbh HK.out HV.out 2 (by omega);omega)).mono ?_;rintro e w2 ⟨rfl,b2⟩;rw[znL HK.out HV.out,←HT.out];have HB2:=Hh (HB.out.trans (b2.mono HB.out.size));clear b2)))
 go_ret;exact⟨rfl,HB2.out⟩
theorem OwS.own_ne {w:World}{base m g n:Nat}{v:Value}{L:List (List UInt8)}{ds:List Nat}(h:OwS w base v m L)(k:OwnD w base g n ds):v.ownBlock≠some g:=fun e=>by
 obtain⟨c,fz,hr⟩:=k.row;rcases h.2.2 with⟨hv,-⟩|⟨g2,cap,cur,hv,r1,r2,r3⟩
 ·rw[hv] at e;cases e
 ·rw[hv] at e;cases e;rw[r2] at hr;cases hr
theorem OwS.one (w:World)(base:Nat)(hb:base≤w.heap.size)(r:List UInt8):OwS (w.alloc (.cells #[strV r] 9)) base (.slice (some ⟨w.heap.size,0,none⟩) 1 1) 1 [r] :=
 ⟨rfl,rfl,.inr ⟨_,_,_,rfl,hb,heap_alloc_new w _,Nat.le_refl _,by unfold maxLen;omega,rfl,rfl⟩⟩
def zip (q:List Nd)(w:World)(e:Ending)(w':World):Prop:=∃v,e=.returned v∧OwS w' w.heap.size v (zca q).length (zca q)∧Below w.heap.size w w'
theorem zks {q:List Nd}(hq:zbq q=true)(h0:q≠[])(hm:zaz q≤1)(hv:(Nds.at_ q (q.length-1)).lv<3) :
  0<(zaT 3 q).length∧kidB (zaT 3 q) 4 ((zaT 3 q).length:Int)=true∧zca q=[zbc (zaT 3 q) ((zaT 3 q).length:Int)]:=by
 have hl:=zbA hq;have hn:0<q.length:=List.length_pos_iff.2 h0;have h1:=zcS hl (i:=q.length-1) (by omega);obtain⟨m,hm1⟩:∃m:Nat,(Nds.at_ q (q.length-1)).lv=(m:Int)+1:=⟨(Nds.at_ q (q.length-1)).lv.toNat-1,by omega⟩;obtain⟨d,hd⟩:∃d,d=3-(Nds.at_ q (q.length-1)).lv.toNat:=⟨_,rfl⟩;have hg:zaT 3 q=zgH d q:=by
  unfold zaT;rw[if_neg (by omega),hd]
 obtain⟨g1,-⟩:=zfb d hl hn hm1 (by omega);have htop:TopL q:=fun i hi=>by
  rcases zmX hq h0 hi with e|⟨h2,-⟩
  ·rw[show i=q.length-1 by omega];exact Int.le_refl _
  ·omega
 have hlow:=zjH d htop (by omega);rw[←hg] at hlow;have hroot:(Nds.at_ (zaT 3 q) ((zaT 3 q).length-1)).lv=3:=by
  rw[hg,g1.lv];omega
 obtain⟨p,hp⟩:∃p,(zaT 3 q).length=p+1:=⟨(zaT 3 q).length-1,by have:=g1.pos;rw[←hg] at this;omega⟩;rw[show(zaT 3 q).length-1=p by omega] at hroot;refine⟨by omega,?_,?_⟩
 ·rw[hp,show((p+1:Nat):Int)=(p:Int)+1 by omega,zbW _ 4 p (by omega) (by omega)];exact decide_eq_true (by omega)
 ·unfold zca;rw[if_pos hm,zin hp hlow hroot,hp];unfold zbn;rw[if_neg (by omega),if_pos rfl];rfl
theorem zmt {q:List Nd}(hl:zaa q=true)(h:¬ (zaz q≤1∧q≠[]∧(Nds.at_ q (q.length-1)).lv<3)):zca q=zaj q (VQ q) q.length:=by
 unfold zca VQ;by_cases hm:zaz q≤1
 ·rw[if_pos hm,if_pos hm];have hg:zaT 3 q=q:=by
   unfold zaT;split
   ·rename_i h0;exact(List.eq_nil_of_length_eq_zero h0).symm
   ·rename_i h0;have h1:q≠[]:=fun e=>h0 (by rw[e];rfl);have h2:¬ (Nds.at_ q (q.length-1)).lv<3:=fun h2=>h ⟨hm,h1,h2⟩;rw[show 3-(Nds.at_ q (q.length-1)).lv.toNat=0 by omega];rfl
  rw[hg]
 ·rw[if_neg hm,if_neg hm]
theorem zhE (A:Option Addr)(c n:Nat)(q:List Nd)(w:World)(h:Ns w A c q)(hn:q.length=n)(hn9:n≤800000)(hq:zbq q=true)(hA:A=none→c=0)(h0:q≠[])(hm:zaz q≤1)(hv:(Nds.at_ q (q.length-1)).lv<3) :
  Calls Tryz.prog 86 #[.agg #[.slice A n c]] w (zip q w):=by
 have hl:=zbA hq;obtain⟨s1,s2,s3⟩:=zks hq h0 hm hv;have hb:=(Below.refl w.heap.size w).alloc (Nat.le_refl _) (.cells #[.slice A n c] 28);have hbx:=zeB (heap_alloc_new w (.cells #[.slice A n c] 28));obtain⟨gb,hgb⟩:∃g,g=w.heap.size:=⟨_,rfl⟩;obtain⟨W0,hW0⟩:∃W:World,W=w.alloc (.cells #[.slice A n c] 28):=⟨_,rfl⟩;rw[←hgb,←hW0] at hbx;rw[←hW0] at hb;have HB:=Hh hb;have HW:=Hh (h.below hb);have HN:=Hh hn;have HL:=Hh hl;have HA:=Hh hA;have HG:=Hh hgb;have HBX:=Hh (show ∀W:World,Below W0.heap.size W0 W→W.cell? ⟨gb,0,none⟩=some (.slice A n c) from fun W k=>(k.cell (p:=⟨gb,0,none⟩) (by rw[hW0,World.size_alloc,hgb];exact Nat.lt_succ_self _)).trans hbx);have hlz:zeo q=(Nds.at_ q (q.length-1)).lv:=if_neg h0;have hlv1:=zcS hl (i:=q.length-1) (by have:=List.length_pos_iff.2 h0;omega);obtain⟨lz,hlzz⟩:∃z,z=zeo q:=⟨_,rfl⟩;have HLZ:=Hh hlzz;have t1:decide (lz>0)=true:=decide_eq_true (by omega);have t1b:decide (0<lz)=true:=t1;have t2:decide (lz<3)=true:=decide_eq_true (by omega);have HM:=Hh (zfj hl);obtain⟨M,hM⟩:∃M,M=zaz q:=⟨_,rfl⟩;have HMM:=Hh hM;have t3:decide (M≤1)=true:=decide_eq_true (by omega);obtain⟨L,hLL⟩:∃L,L=zaT 3 q:=⟨_,rfl⟩;obtain⟨N,hN⟩:∃N,L.length=N:=⟨_,rfl⟩;have hg3:=znH hl;rw[←hLL,hN] at hg3;have HN9:=Hh (show N≤1000000 by omega);have HLo:=Hh hg3.1;rw[←hLL,hN] at s2 s3;have HKB:=Hh s2;have HLN:=Hh hN;have HGR:=Hh (show ∀W:World,Ns W A c q→Calls Tryz.prog 133 #[.agg #[.slice A n c],.int .i64 3] W fun e w'=>∃A2 c2,e=.returned (.tuple #[.slice A2 N c2,.int .i64 (N:Int)])∧Ns w' A2 c2 L∧Below W.heap.size W w' from fun W hW=>by
  refine(znz A c n 3 q W hW hn hn9 hl (by omega) hA).mono ?_;rintro e w' ⟨v,rfl,o2,b2⟩;rw[←hLL] at o2 ⊢;obtain⟨A2,c2,rfl,n2,-⟩:=o2.shape;rw[hN];exact⟨A2,c2,rfl,n2,b2⟩)
 obtain⟨r,hr⟩:∃r,r=zbc L (N:Int):=⟨_,rfl⟩;rw[←hr] at s3;have HR:=Hh hr;have HT:=Hh s3;obtain⟨sb,hsb⟩:∃s:ByteArray,s=⟨r.toArray⟩:=⟨_,rfl⟩;have HSB:=Hh hsb;have HRL:=Hh (show(⟨(zbc L (N:Int)).toArray⟩:ByteArray)=sb by rw[hsb,hr]);clear h hn hl hA hb hlz hlzz hlv1 hM hLL hN hg3 s2 s3 hr hsb hq h0 hm hv s1;go_enter Tryz.func86,Tryz.ntmps86;go_upto_region 1 with fail
 rw[←hgb,←hW0];clear hgb hW0;have r0:True:=trivial;go_wp2_with (first
  | (go_at_call 47;go_loud (refine(zjt A c n q _ HW.out HN.out).mono ?_;rintro e w1 ⟨rfl,b1⟩;rw[HM.out,←HMM.out];have HB1:=Hh b1;clear b1 hbx;have hbx:=HBX.out _ HB1.out))
  | (have _t:=r0;go_at_call 21;clear _t;go_loud (refine(zec A c n q _ (HW.out.below HB1.out) HN.out).mono ?_;rintro e w2 ⟨rfl,b2⟩;rw[←HLZ.out];have HB2:=Hh (HB1.out.trans (b2.mono HB1.out.size));clear b2 hbx;have hbx:=HBX.out _ HB2.out;have r1:=r0;clear r0))
  | (have _t:=r1;go_at_call 21;clear _t;go_loud (refine(zec A c n q _ (HW.out.below HB2.out) HN.out).mono ?_;rintro e w3 ⟨rfl,b3⟩;rw[←HLZ.out];have HB3:=Hh (HB2.out.trans (b3.mono HB2.out.size));clear b3 hbx;have hbx:=HBX.out _ HB3.out;have r2:=r1;clear r1))
  | (go_at_call 133;go_loud (refine(HGR.out _ (HW.out.below HB3.out)).mono ?_;rintro e w4 ⟨A4,c4,rfl,n4,b4⟩;have HN4:=Hh n4;have HB4:=Hh (HB3.out.trans (b4.mono HB3.out.size));clear n4 b4))
  | (go_at_call 44;go_loud (refine(zdS A4 c4 N L _ _ HN4.out HLN.out HN9.out HLo.out HKB.out).mono ?_;rintro e w5 ⟨rfl,q5,rfl⟩;rw[HRL.out])))
 go_ret;unfold zip;rw[HT.out];have ho:=OwS.one (w4.drewN q5) w.heap.size (Nat.le_trans HB.out.size HB4.out.size) r;refine⟨_,by rw[HSB.out],?_,?_⟩
 ·have e:(Value.string sb)=strV r:=by rw[HSB.out];rfl
  rw[e];exact ho
 ·exact(zai (HB.out.trans (HB4.out.mono HB.out.size)) q5).alloc (Nat.le_trans HB.out.size HB4.out.size) _
structure Lr (w0 W:World)(b g n:Nat)(v:Value)(m:Nat)(L:List (List UInt8))(ds:List Nat):Prop where
 below:Below b w0 W
 size:b≤W.heap.size
 out:OwS W b v m L
 nums:OwnD W b g (n+1) ds
theorem Lr.next {w0 W W':World}{b g n m:Nat}{v:Value}{L:List (List UInt8)}{ds:List Nat}(h:Lr w0 W b g n v m L ds)(k:Below W.heap.size W W'):Lr w0 W' b g n v m L ds :=
 ⟨h.below.trans (k.mono h.size),Nat.le_trans h.size k.size,h.out.next k,h.nums.keep (k.block g h.nums.lt.2)⟩
theorem ziq (w:World)(q:Nat):Below w.heap.size w (w.drewN q):=zai (Below.refl _ _) q
theorem OwS.set_ne {w:World}{base m g:Nat}{v:Value}{L:List (List UInt8)}(h:OwS w base v m L)(hne:v.ownBlock≠some g)(k:Nat)(u:Value):OwS (w.setCell ⟨g,k,none⟩ u) base v m L :=
 ⟨h.1,h.2.1,by
  rcases h.2.2 with h2|⟨g2,cap,cur,hv,r1,r2,r3⟩
  ·exact .inl h2
  ·refine .inr ⟨g2,cap,cur,hv,r1,(Below.heap_setCell _ _ _ _ (fun e=>hne ?_)).trans r2,r3⟩;rw[hv];show some g2=some g;rw[show g2=g from e]⟩
def numR (q:List Nd)(V lv k:Int):Nat:=if 1<lv then numL q V k.toNat else k.toNat
theorem zqg {q:List Nd}{V:Int}{i:Nat}(hV:V=1∨V=3)(h:¬ (Nds.at_ q i).lv<V)(h3:¬ (V=3∧(Nds.at_ q i).lv=3)) :
  zbn q V i=brT (Nds.at_ q i).lv.toNat fun k=>numR q V (Nds.at_ q i).lv ((Nds.at_ q i).kid k):=by
 unfold zbn numR;by_cases h1:(Nds.at_ q i).lv>V
 ·rw[if_pos h1];have h2:1<(Nds.at_ q i).lv:=by omega
  simp only[h2,if_true]
 ·rw[if_neg h1,if_neg (by omega)];have h2:¬ 1<(Nds.at_ q i).lv:=by omega
  simp only[h2,if_false]
theorem zmu {q:List Nd}{i:Nat}(h:(Nds.at_ q i).lv=3):zbn q 3 i=zbc q ((i:Int)+1):=by
 unfold zbn;rw[if_neg (by omega),if_pos rfl]
theorem zir (A:Option Addr)(c n:Nat)(q:List Nd)(w:World)(h:Ns w A c q)(hn:q.length=n)(hn9:n≤800000)(hl:zaa q=true)(hsm:¬ (zaz q≤1∧q≠[]∧(Nds.at_ q (q.length-1)).lv<3)) :
    Calls Tryz.prog 86 #[.agg #[.slice A n c]] w (zip q w):=by
  have hcap:=h.cap;rw[hn] at hcap;have hT:=zmt hl hsm;have hb:=(Below.refl w.heap.size w).alloc (Nat.le_refl _) (.cells #[.slice A n c] 28);have hbx:=zeB (heap_alloc_new w (.cells #[.slice A n c] 28));obtain⟨gb,hgb⟩:∃g,g=w.heap.size:=⟨_,rfl⟩;obtain⟨W0,hW0⟩:∃W:World,W=w.alloc (.cells #[.slice A n c] 28):=⟨_,rfl⟩;rw[←hgb,←hW0] at hbx;rw[←hW0] at hb;rw[←hgb] at hb;have hg0:gb<W0.heap.size:=by rw[hW0,World.size_alloc,hgb];exact Nat.lt_succ_self _
  have HB:=Hh hb;have HG0:=Hh hg0;have HH:=Hh h;have HW:=Hh (h.below (by rw[←hgb];exact hb));have HN:=Hh hn;have HL:=Hh hl;have HG:=Hh hgb;have HBX:=Hh (show ∀W:World,Below W0.heap.size W0 W→W.cell? ⟨gb,0,none⟩=some (.slice A n c) from fun W k=>(k.cell (p:=⟨gb,0,none⟩) hg0).trans hbx);have HM:=Hh (zfj hl);obtain⟨M,hM⟩:∃M,M=zaz q:=⟨_,rfl⟩;have HMM:=Hh hM;obtain⟨V,hV⟩:∃V,V=VQ q:=⟨_,rfl⟩;have hVo:V=1∨V=3:=by rw[hV];exact zqd q
  have HVO:=Hh hVo;obtain⟨tw,htw⟩:∃b,b=decide (M≤1):=⟨_,rfl⟩;have HTW:=Hh (show(tw=true∧V=3)∨(tw=false∧V=1) by
    by_cases h1:zaz q≤1
    · exact .inl ⟨by rw[htw,hM];exact decide_eq_true h1,by rw[hV];exact if_pos h1⟩
    · exact .inr ⟨by rw[htw,hM];exact decide_eq_false h1,by rw[hV];exact if_neg h1⟩)
  obtain⟨lz,hlz⟩:∃z,z=zeo q:=⟨_,rfl⟩;have HLZ:=Hh hlz;have htt:tw=false∨(tw=true∧decide (lz>0)=false∧decide (0<lz)=false)∨(tw=true∧decide (lz>0)=true∧decide (0<lz)=true∧decide (lz<3)=false):=by
    cases ht:tw with
    | false=>exact .inl rfl
    | true =>
      refine .inr ?_;have h1:zaz q≤1:=by rw[ht,hM] at htw;exact of_decide_eq_true htw.symm
      by_cases h0:q=[]
      · exact .inl ⟨rfl,by rw[hlz,h0];rfl,by rw[hlz,h0];rfl⟩
      · have h2:lz=(Nds.at_ q (q.length-1)).lv:=by rw[hlz];exact if_neg h0
        have h3:¬ lz<3:=fun h3=>hsm ⟨h1,h0,by rw[←h2];exact h3⟩;exact .inr ⟨rfl,decide_eq_true (by omega),decide_eq_true (by omega),decide_eq_false h3⟩
  obtain⟨iI,hi,hz0,hz1,hz2⟩:=info_parts Tryz.infoI;have HI:=Hh (And.intro hi (And.intro hz0 (And.intro hz1 hz2)));obtain⟨iT,ji,jz0,jz1,jz2⟩:=zph Tryz.infoTs;have HJ:=Hh (And.intro ji (And.intro jz0 (And.intro jz1 jz2)));obtain⟨TT,hTT⟩:∃T,T=zca q:=⟨_,rfl⟩;unfold zip;rw[←hTT,←hgb];have HTT:=Hh (show TT=zaj q V n by rw[hTT,hT,hV,hn]);have HK9:=Hh (show ∀i,i<n→∀k,k<4→0≤(Nds.at_ q i).kid k∧(Nds.at_ q i).kid k≤1000000∧(1<(Nds.at_ q i).lv→(Nds.at_ q i).kid k≤(i:Int)) from fun i hi k hk=>zdN hl (by omega) (by omega) hk);have kN:IntKind.i64.wrap ((n:Int)+1)=(n:Int)+1:=IntWalk.i64_in _ (by omega);have hM1:decide (M≤1)=tw:=htw.symm;clear h hn hl hsm hb hT hM hV htw hlz hi hz0 hz1 hz2 ji jz0 jz1 jz2 hTT hg0 hVo;go_enter Tryz.func86,Tryz.ntmps86;go_upto_region 1 with fail
  rw[←hgb,←hW0];clear hgb hW0;have HWd:=Hh (show ∀W:World,Below W0.heap.size W0 W→Below gb w W∧gb≤W.heap.size from fun W k=>⟨HB.out.trans (k.mono (by have:=HG0.out;omega)),by have h1:=k.size;have:=HG0.out;omega⟩);rcases htt with rfl|⟨rfl,tz,tz1⟩|⟨rfl,tz,tz1,tz2⟩
  all_goals (
    have hVv:=HTW.out;simp at hVv;have HVV:=Hh hVv;clear hVv;have r0:True:=trivial;go_wp2_with (first
      | (go_at_call 47;go_loud (refine(zjt A c n q _ HW.out HN.out).mono ?_;rintro e wc ⟨rfl,b1⟩;rw[HM.out,←HMM.out];have HBc:=Hh b1;clear b1 hbx;have hbx:=HBX.out _ HBc.out))
      | (have _t:=r0;go_at_call 21;clear _t;go_loud (refine(zec A c n q _ (HW.out.below HBc.out) HN.out).mono ?_;rintro e wd ⟨rfl,b2⟩;rw[←HLZ.out];have HBd:=Hh (HBc.out.trans (b2.mono HBc.out.size));clear b2 hbx HBc;rename World=>wc;have HBc:=HBd;clear HBd;have hbx:=HBX.out _ HBc.out))
      | (at_make;go_loud (refine wpList_make_full _ rfl _ _ 99 rfl gb 3 iI _ 1 Tryz.underlying99 HI.out.1 HI.out.2.1 HI.out.2.2.1 .i64 .i64 _ _ (n+1) rfl rfl (by omega) (by omega) (by rw[HI.out.2.2.2];omega) (by unfold maxLen;omega) (HWd.out _ HBc.out).2 ?_;intro W2 hown hgrow)))
    obtain⟨g,hg⟩:∃g,g=wc.heap.size:=⟨_,rfl⟩;rw[←hg] at hown ⊢;have HR0:=Hh (show ∀v,Lr w W2 gb g n (.slice none 0 0) 0 [] (zbv q v n 0) from fun v=>⟨(HWd.out _ HBc.out).1.grown hgrow (HWd.out _ HBc.out).2 (fun j hj=>by cases hj),Nat.le_trans (HWd.out _ HBc.out).2 hgrow.size,OwS.nil _ _,by rw[zfS];exact OwnD.made hown⟩);clear hg hown hgrow hbx HBc;go_loopw [9,7,10,11,12] (fun z1 z2 z3 z4 z5 wr=>∃(k:Nat) (v v3 v4 v5:Value),z1=.int .i64 k∧v=z2∧v3=z3∧v4=z4∧v5=z5∧k≤n∧Lr w wr gb g n v (cntL q V k) (zaj q V k) (zbv q V n k)) (fun z1 _ _ _ _ _=>n-(intOf z1).toNat)
    case atStart=>exact⟨0,_,_,_,_,rfl,rfl,rfl,rfl,rfl,Nat.zero_le _,HR0.out _⟩
    case round =>
      obtain⟨k,v,v3,v4,v5,rfl,rfl,rfl,rfl,rfl,hk,hp⟩:=hrel;have HQ:=Hh hp;obtain⟨Av,cv,rfl⟩:=hp.out.shape;clear hp;obtain⟨ct,hct⟩:∃ct,ct=cntL q V k:=⟨_,rfl⟩;have hct9:ct≤k:=by rw[hct];exact zei q V k
      rw[←hct] at HQ ⊢;have HC:=Hh hct;clear hct;by_cases hlt:k<n
      · have kw:IntKind.i64.wrap ((k:Int)+1)=(k:Int)+1:=IntWalk.i64_in _ (by omega)
        have t1:decide ((k:Int)<(n:Int))=true:=decide_eq_true (by omega);have i0:(0:Int)≤(k:Int):=by omega
        have i1:(k:Int)<(n:Int):=by omega
        have i2:(0:Int)≤(k:Int)+1:=by omega
        have i3:(k:Int)+1<(n:Int)+1:=by omega
        have HKN:=Hh hlt;have hkl:k<q.length:=by rw[HN.out];exact hlt
        obtain⟨bl,off,rfl,hbl,hcl⟩:=HH.out.at_ (by omega)
        rw[←HG.out] at hbl;have HAt:=Hh (hcl k hkl);have HBl:=Hh hbl;obtain⟨x,hx⟩:∃x,x=Nds.at_ q k:=⟨_,rfl⟩
        have hlv:=zcS HL.out hkl;have hx9:=HK9.out k hlt;rw[←hx] at hlv HAt hx9;have HX:=Hh hx;have HX9:=Hh hx9;have HAW:=Hh (show ∀W:World,Below gb w W→NdAt W bl (off+k*5) x from fun W hW=>HAt.out.below (hW.block bl HBl.out));clear hx hcl hbl hkl hlt HAt hx9;obtain⟨lvn,hlvn⟩:∃m:Nat,x.lv=(m:Int):=⟨x.lv.toNat,by omega⟩;have HLV:=Hh hlvn;have hl9:1≤lvn∧lvn≤1329:=by omega
        by_cases hs:x.lv<V
        · first
            | (exfalso;have:=HVV.out;omega)
            | (have t2:decide (x.lv<3)=true:=decide_eq_true (by have:=HVV.out;omega)
               have HSK:=Hh (show(Nds.at_ q k).lv<V by rw[←HX.out];exact hs);have d0:=(HAW.out _ HQ.out.below).1;clear hs hlvn;go_wp2_with fail;go_roundw
               case rel=>exact⟨k+1,_,_,_,_,by go_num,rfl,rfl,rfl,rfl,by have:=HKN.out;omega,by rw[show cntL q V (k+1)=cntL q V k from if_pos HSK.out,←HC.out,show zaj q V (k+1)=zaj q V k from if_pos HSK.out,zfT HSK.out];exact HQ.out⟩
               case measure=>have:=HKN.out;simp[intOf];omega)
        · have HSK:=Hh (show ¬ (Nds.at_ q k).lv<V by rw[←HX.out];exact hs)
          have HCN:=Hh (show cntL q V (k+1)=ct+1 by rw[HC.out];exact if_neg HSK.out);have HLS:=Hh (show zaj q V (k+1)=zaj q V k++[zbn q V k] from if_neg HSK.out);have d0:=(HAW.out _ HQ.out.below).1;rw[hlvn] at d0
          try have t2:decide ((lvn:Int)<3)=false:=decide_eq_false (by have:=HVV.out;omega)
          try have t3:decide (lvn<3)=false:=decide_eq_false (by have:=HVV.out;omega)
          try have t4:(lvn<3)=False:=eq_false (by have:=HVV.out;omega)
          clear hlvn hs;obtain⟨f,hf⟩:∃f:Nat→Nat,f=fun j=>numR q V (lvn:Int) (x.kid j):=⟨_,rfl⟩;have HF:=Hh hf;have HF9:=Hh (show ∀j,j<4→f j≤1000000 from fun j hj=>by
            have h1:=HX9.out j hj;have h2:=zil q V (x.kid j).toNat;rw[hf];show numR q V (lvn:Int) (x.kid j)≤1000000;unfold numR;split <;> omega)
          obtain⟨s0,hs0⟩:∃s:ByteArray,s=⟨(Digs.digs lvn).toArray⟩:=⟨_,rfl⟩;have HS0:=Hh hs0;clear hf hs0;go_wp2_with (go_at_call 134;go_loud (refine(zio lvn _ (by omega)).mono ?_;rintro e w5 ⟨rfl,b5⟩;rw[←HS0.out];have HQ5:=Hh (HQ.out.next b5);clear b5 d0));go_loopw [11,10,12] (fun z1 z2 z3 wr=>∃(kk:Nat) (u:Value),z1=.int .i64 kk∧z2=.string ⟨(brK lvn f kk).toArray⟩∧u=z3∧kk≤4∧Below w5.heap.size w5 wr) (fun z1 _ _ _=>4-(intOf z1).toNat)
          case atStart=>exact⟨0,_,rfl,by rw[HS0.out];rfl,rfl,Nat.zero_le _,Below.refl _ _⟩
          case round =>
            obtain⟨kk,u,rfl,rfl,rfl,hkk,hb6⟩:=hrel;have HB6:=Hh hb6;have HQ6:=Hh (HQ5.out.next hb6);clear hb6;obtain⟨s,hs⟩:∃s:ByteArray,s=⟨(brK lvn f kk).toArray⟩:=⟨_,rfl⟩;rw[←hs];have HS:=Hh hs;have hsz:s.size≤39:=by
              rw[hs,zav];have:=zgR (v:=lvn) (f:=f) (by omega) kk (fun j hj=>HF9.out j (by omega));omega
            clear hs;have hA:=HAW.out _ HQ6.out.below;have d0:=hA.1;rw[HLV.out] at d0;by_cases hk4:kk<4
            · have mw:IntKind.i64.wrap ((kk:Int)+1)=(kk:Int)+1:=IntWalk.i64_in _ (by omega)
              have m1:decide ((kk:Int)<4)=true:=decide_eq_true (by omega);have m0:(0:Int)≤(kk:Int):=by omega
              have m2:(kk:Int)<4:=by omega
              have HK4:=Hh hk4;have d1:=hA.kid hk4;obtain⟨p,hpk⟩:∃p:Nat,x.kid kk=(p:Int):=⟨(x.kid kk).toNat,by have:=(HX9.out kk hk4).1;omega⟩;rw[hpk] at d1;have h9:=HX9.out kk hk4;rw[hpk,HLV.out] at h9;obtain⟨t,ht⟩:∃t:ByteArray,t=⟨(Digs.digs (f kk)).toArray⟩:=⟨_,rfl⟩;have HTD:=Hh ht;have htz:t.size≤7:=by rw[ht,zav];exact zcR (HF9.out kk hk4)
              have z1:(9223372036854775807<s.size+(⟨#[32]⟩:ByteArray).size)=False:=eq_false (by show ¬ 9223372036854775807<s.size+1;omega);have z1b:(9223372036854775807<s.size+1)=False:=eq_false (by omega);have z2:(9223372036854775807<s.size+(⟨#[32]⟩:ByteArray).size+t.size)=False:=eq_false (by show ¬ 9223372036854775807<s.size+1+t.size;omega);have z2b:(9223372036854775807<s.size+1+t.size)=False:=eq_false (by omega);have HNX:=Hh (show s++(⟨#[32]⟩:ByteArray)++t=⟨(brK lvn f (kk+1)).toArray⟩ by
                refine zef ?_;rw[HS.out,ht];show _=brK lvn f kk++[32]++Digs.digs (f kk);simp)
              obtain⟨y,hy⟩:∃y,y=f kk:=⟨_,rfl⟩;have hy9:y≤1000000:=by rw[hy];exact HF9.out kk hk4
              have HYD:=Hh (show(⟨(Digs.digs y).toArray⟩:ByteArray)=t by rw[ht,hy]);by_cases hl1:1<lvn
              · have n1:decide ((lvn:Int)>1)=true:=decide_eq_true (by omega)
                have n2:decide (1<lvn)=true:=decide_eq_true hl1;have n3:(1<lvn)=True:=eq_true hl1;have hpk9:p≤k:=by have:=h9.2.2 (by omega);omega
                have d2:=HQ6.out.nums.cell (k:=p) (by omega);have e2:(zbv q V n k).getD p 0=y:=by
                  rw[zhC (by omega),if_pos hpk9,hy,HF.out];show numL q V p=numR q V (lvn:Int) (x.kid kk);unfold numR;rw[if_pos (by omega),hpk];rfl
                rw[e2] at d2;have j0:(0:Int)≤(p:Int):=by omega
                have j1:(p:Int)<(n:Int)+1:=by omega
                clear hk4 hpk h9 ht hy hl1 e2 hA;go_wp2_with (go_at_call 134;go_loud (refine(zio y _ hy9).mono ?_;rintro e w7 ⟨rfl,b7⟩;rw[HYD.out];have HB7:=Hh (HB6.out.trans (b7.mono HB6.out.size));clear b7));go_roundw
                case rel=>exact⟨kk+1,_,by go_num,by rw[←HNX.out],rfl,HK4.out,HB7.out⟩
                case measure=>have:=HK4.out;simp[intOf];omega
              · have n1:decide ((lvn:Int)>1)=false:=decide_eq_false (by omega)
                have n2:decide (1<lvn)=false:=decide_eq_false hl1;have n3:(1<lvn)=False:=eq_false hl1;have e2:p=y:=by
                  rw[hy,HF.out];show p=numR q V (lvn:Int) (x.kid kk);unfold numR;rw[if_neg (by omega),hpk];rfl
                rw[e2] at d1;clear hk4 hpk h9 ht hy hl1 e2 hA;go_wp2_with (go_at_call 134;go_loud (refine(zio y _ hy9).mono ?_;rintro e w7 ⟨rfl,b7⟩;rw[HYD.out];have HB7:=Hh (HB6.out.trans (b7.mono HB6.out.size));clear b7));go_roundw
                case rel=>exact⟨kk+1,_,by go_num,by rw[←HNX.out],rfl,HK4.out,HB7.out⟩
                case measure=>have:=HK4.out;simp[intOf];omega
            · obtain rfl:kk=4:=by omega
              by_cases h3:V=3∧lvn=3
              · first
                  | (exfalso;have:=HVV.out;omega)
                  | (have u1:((lvn:Int)==3)=true:=beq_iff_eq.2 (by omega)
                     obtain⟨sb,hsb⟩:∃s:ByteArray,s=⟨(zbc q ((k:Int)+1)).toArray⟩:=⟨_,rfl⟩;have HSB:=Hh hsb;have HSL:=Hh (show strV (zbn q V k)=.string sb by rw[hsb,h3.1,zmu (by rw[←HX.out,HLV.out];omega)];rfl);have HKB:=Hh (show kidB q 4 ((k:Int)+1)=true by
                       rw[zbW q 4 k (by omega) (by rw[HN.out];exact HKN.out),←HX.out,HLV.out];exact decide_eq_true (by omega))
                     clear hsb h3 hA hk4;go_wp2_with (first
                       | (go_at_call 44;go_loud (refine(zdS _ c n q _ _ (HH.out.belowB (B:=gb) (fun a e=>by cases e;exact HBl.out) HQ6.out.below) HN.out (by omega) HL.out HKB.out).mono ?_;rintro e w5 ⟨rfl,q5,rfl⟩;rw[←HSB.out];have HQ6:=Hh (HQ6.out.next (ziq _ q5));clear d0))
                       | (at_builtin;go_loud (refine wpList_append_own_at _ rfl _ _ 49 rfl gb 9 iT (.string ⟨#[]⟩) 1 16 Tryz.underlying49 HJ.out.1 HJ.out.2.1 HJ.out.2.2.1 HJ.out.2.2.2 rfl (by decide) _ _ _ rfl (HQ6.out.out.next ((Below.refl _ _).alloc (Nat.le_refl _) (.cells #[.string sb] 9))).2 ⟨_,0,none⟩ 1 1 [.string sb] rfl rfl (cell_one_new _ _ _) (by simp[Value.oneCell']) (by simp only[maxLen];omega) (by omega) (by rw[World.size_alloc];have:=HQ6.out.size;omega) ?_;intro v2 w8 ho8 hg8 hn8 hk8;have HQ7:=Hh (HQ6.out.next ((Below.refl _ _).alloc (Nat.le_refl _) (.cells #[.string sb] 9)));have OW8:=Hh (show OwS w8 gb v2 (ct+1) (zaj q V k++[zbn q V k]) from OwS.more HQ6.out.out.1 (by rw[HSL.out];exact ho8));have HQ8:=Hh (show Lr w w8 gb g n v2 (ct+1) (zaj q V (k+1)) (zbv q V n k) from⟨HQ7.out.below.grown hg8 HQ7.out.size (fun j hj=>(HQ7.out.out.2.lt j hj).1),Nat.le_trans HQ7.out.size hg8.size,by rw[HLS.out];exact OW8.out,HQ7.out.nums.gbr hg8 (HQ7.out.out.own_ne HQ7.out.nums)⟩);clear ho8 hg8 hn8 hk8;obtain⟨A8,c8,rfl⟩:=OW8.out.shape;have o1:=HQ8.out.nums.cell (k:=k+1) (by omega);have o2:=HQ8.out.nums.free (k+1))))
                     go_roundw
                     case rel =>
                       refine⟨k+1,_,_,_,_,by go_num,rfl,rfl,rfl,rfl,by have:=HKN.out;omega,?_⟩;rw[HCN.out];refine⟨HQ8.out.below.setCell (p:=⟨g,k+1,none⟩) HQ8.out.nums.lt.1 _,Nat.le_trans HQ8.out.size (by simp),HQ8.out.out.set_ne (HQ8.out.out.own_ne HQ8.out.nums) _ _,?_⟩;rw[zfg (by have:=HSK.out;omega),←HC.out];exact HQ8.out.nums.set (k+1) (ct+1)
                     case measure=>have:=HKN.out;simp[intOf];omega)
              · try have u1:((lvn:Int)==3)=false:=beq_eq_false_iff_ne.2 (by have:=HVV.out;omega)
                obtain⟨sb,hsb⟩:∃sb,sb=s:=⟨_,rfl⟩;rw[←hsb];have HSL:=Hh (show strV (zbn q V k)=.string sb by
                  rw[hsb,HS.out,zqg HVO.out (by have:=HSK.out;omega) (by rw[←HX.out,HLV.out];omega),←HX.out,HLV.out,HF.out];rfl)
                clear hsb h3 hA hk4;go_wp2_with (at_builtin;go_loud (refine wpList_append_own_at _ rfl _ _ 49 rfl gb 9 iT (.string ⟨#[]⟩) 1 16 Tryz.underlying49 HJ.out.1 HJ.out.2.1 HJ.out.2.2.1 HJ.out.2.2.2 rfl (by decide) _ _ _ rfl (HQ6.out.out.next ((Below.refl _ _).alloc (Nat.le_refl _) (.cells #[.string sb] 9))).2 ⟨_,0,none⟩ 1 1 [.string sb] rfl rfl (cell_one_new _ _ _) (by simp[Value.oneCell']) (by simp only[maxLen];omega) (by omega) (by rw[World.size_alloc];have:=HQ6.out.size;omega) ?_;intro v2 w8 ho8 hg8 hn8 hk8;have HQ7:=Hh (HQ6.out.next ((Below.refl _ _).alloc (Nat.le_refl _) (.cells #[.string sb] 9)));have OW8:=Hh (show OwS w8 gb v2 (ct+1) (zaj q V k++[zbn q V k]) from OwS.more HQ6.out.out.1 (by rw[HSL.out];exact ho8));have HQ8:=Hh (show Lr w w8 gb g n v2 (ct+1) (zaj q V (k+1)) (zbv q V n k) from⟨HQ7.out.below.grown hg8 HQ7.out.size (fun j hj=>(HQ7.out.out.2.lt j hj).1),Nat.le_trans HQ7.out.size hg8.size,by rw[HLS.out];exact OW8.out,HQ7.out.nums.gbr hg8 (HQ7.out.out.own_ne HQ7.out.nums)⟩);clear ho8 hg8 hn8 hk8;obtain⟨A8,c8,rfl⟩:=OW8.out.shape;have o1:=HQ8.out.nums.cell (k:=k+1) (by omega);have o2:=HQ8.out.nums.free (k+1)));go_roundw
                case rel =>
                  refine⟨k+1,_,_,_,_,by go_num,rfl,rfl,rfl,rfl,by have:=HKN.out;omega,?_⟩;rw[HCN.out];refine⟨HQ8.out.below.setCell (p:=⟨g,k+1,none⟩) HQ8.out.nums.lt.1 _,Nat.le_trans HQ8.out.size (by simp),HQ8.out.out.set_ne (HQ8.out.out.own_ne HQ8.out.nums) _ _,?_⟩;rw[zfg (by have:=HSK.out;omega),←HC.out];exact HQ8.out.nums.set (k+1) (ct+1)
                case measure=>have:=HKN.out;simp[intOf];omega
      · obtain rfl:k=n:=by omega
        have t9:decide ((k:Int)<(k:Int))=false:=decide_eq_false (by omega);go_wp2_with fail;go_ret;rw[HTT.out,←show cntL q V k=(zaj q V k).length from(zci q V k).symm,←HC.out];exact⟨_,rfl,HQ.out.out,HQ.out.below⟩)
theorem zhF (A:Option Addr)(c n:Nat)(q:List Nd)(w:World)(h:Ns w A c q)(hn:q.length=n)(hn9:n≤800000)(hq:zbq q=true)(hA:A=none→c=0) :
  Calls Tryz.prog 86 #[.agg #[.slice A n c]] w (zip q w):=by
 by_cases hs:zaz q≤1∧q≠[]∧(Nds.at_ q (q.length-1)).lv<3
 ·exact zhE A c n q w h hn hn9 hq hA hs.2.1 hs.1 hs.2.2
 ·exact zir A c n q w h hn hn9 (zbA hq) hs
theorem zmv {q:List Nd}(hl:zaa q=true):(zca q).length≤q.length+10:=by
 rw[zeH,zci];have h1:=zei (LQ q) (VQ q) (LQ q).length;have h2:=(zdO hl).2;omega
theorem zel {l:List Nd}{v:Int}{r:List UInt8}:∀k,r∈zaj l v k→∃i,i<k∧r=zbn l v i
 | 0,h=>by cases h
 | k+1,h=>by
  unfold zaj at h;split at h
  ·obtain⟨i,hi,e⟩:=zel k h;exact⟨i,by omega,e⟩
  ·rcases List.mem_append.1 h with h1|h1
   ·obtain⟨i,hi,e⟩:=zel k h1;exact⟨i,by omega,e⟩
   ·exact⟨k,by omega,List.mem_singleton.1 h1⟩
theorem znM {q:List Nd}(hl:zaa q=true)(hn:q.length≤800000):∀r∈zca q,r.length≤72:=fun r hr=>by
 rw[zeH] at hr;obtain⟨i,hi,rfl⟩:=zel _ hr;have h2:=zdO hl;exact zfi h2.1 (by omega) hi
theorem zpq {L:List (List UInt8)}(h:∀r∈L,r.length≤72):(lnT L).length≤73*L.length:=by
 induction L with
 | nil=>exact Nat.le_refl _
 | cons r t ih =>
  have h1:=ih fun r hr=>h r (List.mem_cons_of_mem _ hr);have h2:=h r (by simp);unfold lnT at h1 ⊢;simp only[List.map_cons,List.flatten_cons,List.length_append,List.length_cons,List.length_nil] at h1 ⊢;omega
theorem OwS.ts {w:World}{base m:Nat}{v:Value}{L:List (List UInt8)}(h:OwS w base v m L)(hL:∀r∈L,r.length≤maxLen):∃A c,v=.slice A m c∧Ts w A c L:=by
 rcases h.2.2 with⟨hv,h0⟩|⟨g,cap,cur,hv,r1,r2,r3,r4,r5,r6⟩
 ·subst h0;refine⟨none,0,hv,?_⟩;rw[List.length_eq_zero_iff.1 h.1];exact Ts.nil w
 ·refine⟨_,_,hv,hL,?_⟩;have hl:(L.map strV).length=m:=by rw[List.length_map,h.1]
  refine⟨by rw[hl];exact r3,r4,fun h0=>⟨g,0,rfl,(Array.getElem?_eq_some_iff.1 r2).1,fun j u hj=>?_⟩⟩;rw[cell_of_row w g _ _ _ (0,0) r2,Nat.zero_add];rw[←r6,List.getElem?_take] at hj;split at hj
  ·rw[←hj,Array.getElem?_toList]
  ·cases hj
theorem zmw (A:Option Addr)(c n:Nat)(q:List Nd)(w:World)(h:Ns w A c q)(hn:q.length=n)(hn9:n≤800000)(hq:zbq q=true)(hA:A=none→c=0) :
  Calls Tryz.prog 41 #[.agg #[.slice A n c]] w fun e w'=>e=.returned (.int .i64 ((zca q).length:Nat))∧Below w.heap.size w w':=by
 have hb:=(Below.refl w.heap.size w).alloc (Nat.le_refl _) (.cells #[.slice A n c] 28);have HB:=Hh hb;have HW:=Hh (h.below hb);have HRL:=Hh (show ∀W:World,Ns W A c q→Calls Tryz.prog 86 #[.agg #[.slice A n c]] W (zip q W) from fun W hW=>zhF A c n q W hW hn hn9 hq hA);obtain⟨m,hm⟩:∃m,m=(zca q).length:=⟨_,rfl⟩;rw[←hm];have HM:=Hh hm;clear h hn hq hA hm hb;go_enter Tryz.func41,Tryz.ntmps41;go_wp2_with (go_at_call 86;go_loud (refine(HRL.out _ HW.out).mono ?_;rintro e w1 ⟨v,rfl,o1,b1⟩;rw[←HM.out] at o1;obtain⟨A1,c1,rfl⟩:=o1.shape;have HB1:=Hh (HB.out.trans (b1.mono HB.out.size));clear o1 b1));go_ret;exact⟨rfl,HB1.out⟩
theorem zjJ (A:Option Addr)(c n:Nat)(s:ByteArray)(q:List Nd)(w:World)(hs:s.size≤1000)(h:Ns w A c q)(hn:q.length=n)(hn9:n≤800000)(hA:A=none→c=0) :
  Calls Tryz.prog 39 #[.agg #[.string s,.slice A n c]] w (zek s q w):=by
 have hb:=(Below.refl w.heap.size w).alloc (Nat.le_refl _) (.cells #[.string s,.slice A n c] 30);have hpc:=zcG (heap_alloc_new w (.cells #[.string s,.slice A n c] 30));obtain⟨gb,hgb⟩:∃g,g=w.heap.size:=⟨_,rfl⟩;obtain⟨W0,hW0⟩:∃W:World,W=w.alloc (.cells #[.string s,.slice A n c] 30):=⟨_,rfl⟩;rw[←hgb,←hW0] at hpc;rw[←hW0] at hb;have HB:=Hh hb;have HW:=Hh (h.below hb);have HPC:=Hh (show ∀W:World,Below W0.heap.size W0 W→W.cell? ⟨gb,0,none⟩=some (.string s)∧W.cell? ⟨gb,1,none⟩=some (.slice A n c) from fun W k=>by
  have hlt:gb<W0.heap.size:=by rw[hW0,World.size_alloc,hgb];exact Nat.lt_succ_self _
  exact⟨(k.cell (p:=⟨gb,0,none⟩) hlt).trans hpc.1,(k.cell (p:=⟨gb,1,none⟩) hlt).trans hpc.2⟩)
 have HPR:=Hh (show ∀W:World,Ns W A c q→Calls Tryz.prog 85 #[.agg #[.string s,.slice A n c]] W fun e w'=>e=.returned (.bool (mayP s q))∧Below W.heap.size W w' from fun W hW=>zij A c n s q W (by unfold maxLen;omega) hW hn (by omega));obtain⟨c0,c1⟩:=hpc;cases hm:mayP s q with
 | false =>
  have HM:=Hh hm;clear h hn hA hb hm;go_enter Tryz.func39,Tryz.ntmps39;go_upto_region 1 with fail
  rw[←hgb,←hW0];clear hgb hW0;go_wp2_with (go_at_call 85;go_loud (refine(HPR.out _ HW.out).mono ?_;rintro e w1 ⟨rfl,b1⟩;rw[HM.out];have HB1:=Hh (HB.out.trans (b1.mono HB.out.size));clear b1));go_ret2;exact zek.no HM.out rfl HB1.out
 | true =>
  have hq:zbq q=true:=(Bool.and_eq_true_iff.1 hm).2;have hl:=zbA hq;have HRL:=Hh (show ∀W:World,Ns W A c q→Calls Tryz.prog 86 #[.agg #[.slice A n c]] W (zip q W) from fun W hW=>zhF A c n q W hW hn hn9 hq hA);obtain⟨L,hLL⟩:∃L,L=zca q:=⟨_,rfl⟩;obtain⟨N,hN⟩:∃N,N=L.length:=⟨_,rfl⟩;have HLE:=Hh hLL;have HNE:=Hh hN;have hN9:N≤1000000:=by rw[hN,hLL];have:=zmv hl;omega
  have HL72:=Hh (show ∀r∈L,r.length≤72 from by rw[hLL];exact znM hl (by omega));obtain⟨H,hH⟩:∃H,H=znD++s.data.toList++[10]:=⟨_,rfl⟩;have HHD:=Hh hH;have hHz:H.length≤1018:=by
   rw[hH,List.length_append,List.length_append,zbM];show 17+s.size+1≤1018;omega
  have HTX:=Hh (show zft s.data.toList q=H++lnT L by unfold zft;rw[hH,hLL]);have HM:=Hh hm;have z1:(9223372036854775807<(⟨#[91,77,50,93,32,40,103,108,105,100,101,114,41,10,35,82,32]⟩:ByteArray).size+s.size)=False:=eq_false (by show ¬ 9223372036854775807<17+s.size;omega);have z3:(9223372036854775807<(⟨#[91,77,50,93,32,40,103,108,105,100,101,114,41,10,35,82,32]⟩:ByteArray).size+s.size+(⟨#[10]⟩:ByteArray).size)=False:=eq_false (by show ¬ 9223372036854775807<17+s.size+1;omega);have z5:(9223372036854775807<17+s.size)=False:=eq_false (by omega);have z6:(9223372036854775807<17+s.size+1)=False:=eq_false (by omega);have HH0:=Hh (show(⟨#[91,77,50,93,32,40,103,108,105,100,101,114,41,10,35,82,32]⟩:ByteArray)++s++(⟨#[10]⟩:ByteArray)=⟨(H++lnT (L.take 0)).toArray⟩ by
   refine zef ?_;rw[hH];simp[znD,lnT])
  clear h hn hA hb hm hl hq hLL hN hH;go_enter Tryz.func39,Tryz.ntmps39;go_upto_region 1 with fail
  rw[←hgb,←hW0];clear hgb hW0;go_wp2_with (first
   | (go_at_call 85;go_loud (refine(HPR.out _ HW.out).mono ?_;rintro e w1 ⟨rfl,b1⟩;rw[HM.out];have HB1:=Hh b1;clear b1 c0 c1;obtain⟨c0,c1⟩:=HPC.out _ HB1.out))
   | (go_at_call 86;go_loud (refine(HRL.out _ (HW.out.below HB1.out)).mono ?_;rintro e w2 ⟨v,rfl,o2,b2⟩;rw[←HLE.out,←HNE.out] at o2;obtain⟨A2,c2,rfl,ts2⟩:=o2.ts (fun r hr=>Nat.le_trans (HL72.out r hr) (by unfold maxLen;omega));have hcap:=ts2.cap;have HTS:=Hh ts2;have HB2:=Hh (HB1.out.trans (b2.mono HB1.out.size));clear o2 b2 c0 c1 ts2)))
  rw[←HNE.out] at hcap;go_loopw [6,4] (fun z1 z2 wr=>∃(k:Nat),z1=.int .i64 k∧z2=.string ⟨(H++lnT (L.take k)).toArray⟩∧k≤N∧wr=w2) (fun z1 _ _=>N-(intOf z1).toNat)
  case atStart=>exact⟨0,rfl,by rw[HH0.out],Nat.zero_le _,rfl⟩
  case round =>
   obtain⟨k,rfl,rfl,hk,rfl⟩:=hrel;obtain⟨t,ht⟩:∃t:ByteArray,t=⟨(H++lnT (L.take k)).toArray⟩:=⟨_,rfl⟩;rw[←ht];have htz:t.size≤1018+73*k:=by
    rw[ht,zav,List.length_append];have h1:=zpq (L:=L.take k) (fun r hr=>HL72.out r (List.mem_of_mem_take hr));rw[List.length_take] at h1;omega
   have HTT:=Hh ht;clear ht;by_cases hlt:k<N
   ·have kw:IntKind.i64.wrap ((k:Int)+1)=(k:Int)+1:=IntWalk.i64_in _ (by omega);have t1:decide ((k:Int)<(N:Int))=true:=decide_eq_true (by omega);have i0:(0:Int)≤(k:Int):=by omega
    have i1:(k:Int)<(N:Int):=by omega
    have HLT:=Hh hlt;have hkl:k<L.length:=by rw[←HNE.out];exact hlt
    obtain⟨b2,o2,rfl,-,hcc⟩:=HTS.out.at_ (by omega)
    have s0:=hcc k hkl;unfold strV at s0;obtain⟨r,hr⟩:∃r:ByteArray,r=⟨(tat L k).toArray⟩:=⟨_,rfl⟩;rw[←hr] at s0;have hrz:r.size≤72:=by
     rw[hr,zav];refine HL72.out _ ?_;unfold tat;rw[List.getElem?_eq_getElem hkl];exact List.getElem_mem _
    have y1:(9223372036854775807<t.size+r.size)=False:=eq_false (by omega);have y2:(9223372036854775807<t.size+r.size+(⟨#[10]⟩:ByteArray).size)=False:=eq_false (by show ¬ 9223372036854775807<t.size+r.size+1;omega);have y3:(9223372036854775807<t.size+r.size+1)=False:=eq_false (by omega);have HNX:=Hh (show t++r++(⟨#[10]⟩:ByteArray)=⟨(H++lnT (L.take (k+1))).toArray⟩ by
     refine zef ?_;have h1:L.take (k+1)=L.take k++[tat L k]:=by
      rw[List.take_add_one,List.getElem?_eq_getElem hkl];unfold tat;rw[List.getElem?_eq_getElem hkl];rfl
     rw[h1,zdL,HTT.out,hr];simp)
    clear hcc hr hkl hlt;go_wp2_with fail;go_roundw
    case rel=>exact⟨k+1,by go_num,by rw[←HNX.out],HLT.out,by first|rfl|trivial⟩
    case measure=>have:=HLT.out;simp[intOf];omega
   ·obtain rfl:k=N:=by omega
    have t9:decide ((k:Int)<(k:Int))=false:=decide_eq_false (by omega);have HE:=Hh (show t=⟨(zft s.data.toList q).toArray⟩ by rw[HTT.out,HTX.out,HNE.out,List.take_length]);go_wp2_with fail;go_ret2;exact zek.yes HM.out (by rw[←HE.out];rfl) (HB.out.trans (HB2.out.mono HB.out.size))
end Go.Proofs.YtfjajpnfjjdnpaaGreatDoor
