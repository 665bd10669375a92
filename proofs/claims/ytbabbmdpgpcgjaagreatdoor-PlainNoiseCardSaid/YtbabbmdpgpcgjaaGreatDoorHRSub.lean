import Derived.Test.YtbabbmdpgpcgjaaGreatDoorHRound
import Derived.StillTailTactics
import Derived.Deep.RegionHeld

set_option linter.unusedVariables false
set_option linter.unusedSimpArgs false
set_option maxRecDepth 100000
set_option maxHeartbeats 6400000
namespace Go.Proofs.YtbabbmdpgpcgjaaGreatDoor
open Go.RowKit Go.Shelf Num
attribute [local go_sem] Oper.semAt_some
def shrD (p ab x:Nat):Nat:=(4294967296*ab+x) / 2^p%4294967296
def zlz (p:Nat){m:Nat}(s:List Nat × Nat)(x:Item m):List Nat × Nat:=(s.1.set x.1.1 (shrD p s.2 x.1.2),x.1.2)
def ziU (p:Nat){m:Nat}(pre:List (Item m)):List Nat × Nat:=pre.foldl (zlz p) (List.replicate m 0,0)
theorem znV (p:Nat){m:Nat}(pre:List (Item m))(x:Item m):ziU p (pre++[x])=zlz p (ziU p pre) x:=by simp[ziU]
theorem zkd {rs:List Nat}{i:Nat}(d:Nat)(hi:i<rs.length):val ((rs.set i d).drop i)=d+4294967296*val (rs.drop (i+1)):=by
 rw[zdU (by simpa using hi),List.getElem?_set_self hi,List.drop_set_of_lt (by omega)];rfl
theorem zpC {p ab y Z:Nat}(hp:p<32)(hy:y<4294967296)(hr:ab%2^p=Z%2^p):shrD p ab y+4294967296*(Z / 2^p)=(y+4294967296*Z) / 2^p:=by
 unfold shrD;have e:(4294967296:Nat)=2^p*2^(32-p):=by rw[←Nat.pow_add,show p+(32-p)=32 from by omega]
 have hP:=Nat.two_pow_pos p;have ha:=Nat.div_add_mod ab (2^p);have hz:=Nat.div_add_mod Z (2^p);have hrl:=Nat.mod_lt Z hP;rw[hr] at ha;generalize ab / 2^p=u at *;generalize Z / 2^p=q at *;generalize Z%2^p=r at *;generalize 2^p=P at *;have e1:4294967296*ab+y=P*(4294967296*u)+(4294967296*r+y):=by
  rw[←ha,Nat.mul_add,Nat.mul_left_comm];omega
 have e2:y+4294967296*Z=P*(4294967296*q)+(4294967296*r+y):=by
  rw[←hz,Nat.mul_add,Nat.mul_left_comm];omega
 have e3:(4294967296*r+y) / P<4294967296:=by
  rw[Nat.div_lt_iff_lt_mul hP];have:4294967296*(r+1)≤4294967296*P:=Nat.mul_le_mul_left _ hrl;omega
 rw[e1,e2,Nat.mul_add_div hP,Nat.mul_add_div hP,Nat.mul_add_mod,Nat.mod_eq_of_lt e3];omega
theorem zmT {p:Nat}(hp:p<32)(zs:List Nat)(hd:Dig zs):∀j,j≤zs.length→(ziU p (its zs hd j)).1.length=zs.length∧(ziU p (its zs hd j)).2=zs[zs.length-j]?.getD 0 ∧
  val ((ziU p (its zs hd j)).1.drop (zs.length-j))=val (zs.drop (zs.length-j)) / 2^p
 | 0,_=>by
  refine⟨by simp[its,ziU],?_,?_⟩
  ·rw[Nat.sub_zero,List.getElem?_eq_none (Nat.le_refl _)];rfl
  ·rw[Nat.sub_zero,List.drop_eq_nil_of_le (by simp[its,ziU]),List.drop_eq_nil_of_le (Nat.le_refl _)];simp[val]
 | j+1,hj=>by
  obtain⟨h1,h2,h3⟩:=zmT hp zs hd j (by omega);rw[zfV,znV];unfold zlz it;simp only;have hi:zs.length-(j+1)<zs.length:=by omega
  have e:zs.length-1-j=zs.length-(j+1):=by omega
  have e':zs.length-j=zs.length-(j+1)+1:=by omega
  rw[e];rw[e'] at h2 h3;generalize zs.length-(j+1)=i at *;refine⟨by rw[List.length_set];exact h1,rfl,?_⟩;rw[zkd _ (by omega),h3,zdU hi,h2];refine zpC hp (hd.getD i) ?_;rcases Nat.lt_or_ge (i+1) zs.length with hlt|hge
  ·rw[zdU hlt];have e32:(4294967296:Nat)=2^p*2^(32-p):=by rw[←Nat.pow_add,show p+(32-p)=32 from by omega]
   rw[e32,Nat.mul_assoc,Nat.add_mul_mod_self_left]
  ·rw[List.drop_eq_nil_of_le hge,List.getElem?_eq_none hge];rfl
theorem shr_all {p k wh:Nat}(hw:wh=k / 32)(hp:p=k%32)(xs zs:List Nat)(hx:Dig xs)(hd:Dig zs)(hz:zs=xs.drop wh)(hl:wh≤xs.length):val (ziU p (its zs hd zs.length)).1=val xs / 2^k:=by
 have h:=(zmT (p:=p) (by omega) zs hd zs.length (Nat.le_refl _)).2.2;rw[Nat.sub_self,List.drop_zero,List.drop_zero] at h;rw[h];have e:2^k=4294967296^wh*2^p:=by rw[show(4294967296:Nat)=2^32 from by decide,←Nat.pow_mul,←Nat.pow_add,hp,hw,show 32*(k / 32)+k%32=k from by omega]
 have hs:=zcN xs wh hl;have hlt:=zcl (hx.take wh);rw[List.length_take,Nat.min_eq_left hl] at hlt;rw[e,←Nat.div_div_eq_div_mul,hs,Nat.add_mul_div_left _ _ (Nat.pow_pos (by decide)),Nat.div_eq_of_lt hlt,Nat.zero_add,←hz]
end Go.Proofs.YtbabbmdpgpcgjaaGreatDoor

namespace Go.Proofs.YtbabbmdpgpcgjaaGreatDoor
open Go.RowKit Num
theorem Bl.take {w:World}{A:Option Addr}{c:Nat}{bs:List Bool}(h:Bl w A c bs){k:Nat}(hk:k≤bs.length):Bl w A c (bs.take k):=by
 refine⟨?_,h.2.1,fun hn=>?_⟩
 ·have:=h.1;simp only[List.length_map,List.length_take] at this ⊢;omega
 ·simp only[List.length_map,List.length_take] at hn;obtain⟨b,off,e,hb,hc⟩:=h.2.2 (by simp;omega);refine⟨b,off,e,hb,fun j u hu=>hc j u ?_⟩;rw[List.map_take,List.getElem?_take] at hu;split at hu
  ·exact hu
  ·cases hu
theorem zvI {A:Option Addr}{c:Nat}{bs:List Bool}{i:Int}{w:World}(h:Bl w A c bs)(hl:bs.length≤100000000){r:Bool}(hr:r=(decide (0≤i)&&bs[i.toNat]?.getD false)) :
  Calls Tryz.prog 118 #[.slice A bs.length c,.int .i64 i] w fun e w'=>e=.returned (.bool r)∧w=w':=by
 subst hr;exact zvE A c bs i w h hl
def RetC (A:Option Addr)(c:Nat)(bs:List Bool)(w:World)(e:Ending)(w':World):Prop :=
 ∃k,k≤bs.length∧e=.returned (.slice A k c)∧zbn (bs.take k)∧bval (bs.take k)=bval bs∧Below w.heap.size w w'
theorem zlA {xs:List Bool}{k:Nat}(hk:k<xs.length)(hn:xs[k]?.getD false=true):zbn (xs.take (k+1)):=by
 rw[zhY hk];simpa [zbn] using hn
theorem zpD (A:Option Addr)(c:Nat)(bs:List Bool)(w:World)(h:Bl w A c bs)(hl:bs.length≤100000000) :
  Calls Tryz.prog 159 #[.slice A bs.length c] w (RetC A c bs w):=by
 obtain⟨n,hn⟩:∃n,n=bs.length:=⟨_,rfl⟩;have hcap:=h.cap;rw[←hn] at hl hcap ⊢;have HN:=Hh hn;have HH:=Hh h;clear h hn;go_enter Tryz.func159,Tryz.ntmps159;go_wp2;go_loopw [0] (fun v wr=>∃k:Nat,k≤n∧v=.slice A k c∧bval (bs.take k)=bval bs∧Below w.heap.size w wr) (fun v _=>match v with|.slice _ k _=>k|_=>0)
 case atStart=>exact⟨n,Nat.le_refl _,rfl,by rw[List.take_of_length_le (by rw[←HN.out];exact Nat.le_refl _)],Below.refl _ _⟩
 case round =>
  obtain⟨k,hk,rfl,hv,hb⟩:=hrel;have HV:=Hh hv;have HB:=Hh hb;clear hv hb;by_cases h0:0<k
  ·obtain⟨q,rfl⟩:∃q,k=q+1:=⟨k-1,by omega⟩;obtain⟨b,off,rfl,hb,hc⟩:=HH.out.at_ (by rw[←HN.out];omega)
   have e1:=(HB.out.cell (p:=⟨b,off+q,none⟩) hb).trans (hc q (by rw[←HN.out];omega));obtain⟨x,hx⟩:∃x,x=bs[q]?.getD false:=⟨_,rfl⟩;rw[←hx] at e1;have HX:=Hh hx;clear hc hx;have hq1:(q:Int)<(c:Int):=by omega
   cases x
   ·go_wp2;go_roundw
    case rel=>exact⟨q,by omega,rfl,(zsB (by rw[←HN.out];omega) HX.out.symm).symm.trans HV.out,HB.out⟩
    case measure=>simp
   ·go_wp2;go_ret;exact⟨q+1,by rw[←HN.out];exact hk,rfl,zlA (by rw[←HN.out];omega) HX.out.symm,HV.out,HB.out⟩
  ·obtain rfl:k=0:=by omega
   go_wp2;go_ret;exact⟨0,Nat.zero_le _,rfl,by simp[zbn],HV.out,HB.out⟩
def OutB (w:World)(base:Nat)(v:Value)(bs:List Bool):Prop:=w.ownsRow base 4 1 v bs.length (bs.map Value.bool)
theorem OutB.nil (w:World)(base:Nat):OutB w base (.slice none 0 0) []:=World.ownsRow_nil _ _ _ _
theorem OutB.shape {w:World}{base:Nat}{v:Value}{bs:List Bool}(h:OutB w base v bs):∃A c,v=.slice A bs.length c:=zcm h
theorem OutB.reads {w:World}{base:Nat}{A:Option Addr}{n c:Nat}{bs:List Bool}(h:OutB w base (.slice A n c) bs)(hn:n=bs.length):Bl w A c bs:=by
 subst hn;exact Rd.own h
theorem OutB.below {w w':World}{base:Nat}{v:Value}{bs:List Bool}(h:OutB w base v bs)(hb:Below w.heap.size w w'):OutB w' base v bs:=zdc h hb
theorem OutB.snoc {w w0 w1:World}{base:Nat}{v v':Value}{bs:List Bool}{b:Bool}{o:Obj}(h:OutB w base v bs)(hb:Below base w0 w)(h0:base≤w0.heap.size)
  (hown:w1.ownsRow base 4 1 v' (bs.length+1) (bs.map Value.bool++[.bool b])) (hg:(w.alloc o).grownBy w1 v.ownBlock) :
  OutB w1 base v' (bs++[b])∧Below base w0 w1:=by
 refine⟨?_,?_⟩
 ·unfold OutB;rw[List.length_append,List.map_append];exact hown
 ·have hs:=hb.size;refine(hb.alloc (Nat.le_trans h0 hs) o).grown hg (by simp;omega) (fun k hk=>?_);rcases h.2 with⟨rfl,_⟩|⟨g,cap,cur,rfl,h2,_⟩
  ·cases hk
  ·cases hk;exact h2
def zde (n i j x y:Nat)(xs:List Nat)(w:World)(v:Value)(wr:World):Prop :=
 ∃bs,OutB wr w.heap.size v bs∧bs.length=32*i+j∧bval bs=val (xs.take i)+2^(32*i)*(x%2^j)∧y=x / 2^j∧Below w.heap.size w wr
theorem zde.next {n i j x y:Nat}{xs:List Nat}{w wr w1:World}{v v':Value}{bs:List Bool}{o:Obj}{b:Bool}(h0:OutB wr w.heap.size v bs)(h1:bs.length=32*i+j)(h2:bval bs=val (xs.take i)+2^(32*i)*(x%2^j))(h3:y=x / 2^j)(h4:Below w.heap.size w wr)
  (hb:b=(y%2==1)) (hown:w1.ownsRow w.heap.size 4 1 v' (bs.length+1) (bs.map Value.bool++[.bool b])) (hg:(wr.alloc o).grownBy w1 v.ownBlock):zde n i (j+1) x (y / 2) xs w v' w1:=by
 obtain⟨k1,k2⟩:=h0.snoc h4 (Nat.le_refl _) hown hg;refine⟨_,k1,by rw[List.length_append,h1];rfl,?_,by rw[h3,Nat.div_div_eq_div_mul,Nat.pow_succ],k2⟩;rw[zbq,h2,h1,Nat.mod_pow_succ,Nat.pow_add,Nat.mul_add,←Nat.mul_assoc,←h3,Nat.add_assoc];congr 2;have:bval [b]=y%2:=by
  rw[hb];rcases Nat.mod_two_eq_zero_or_one y with h|h <;> rw[h] <;> rfl
 rw[this]
theorem zde.turn {n i x y:Nat}{xs:List Nat}{w wr:World}{v:Value}(h:zde n i 32 x y xs w v wr)(hi:i<xs.length)(hx:x=xs[i]?.getD 0)(hxl:x<4294967296)(x':Nat):zde n (i+1) 0 x' x' xs w v wr:=by
 obtain⟨bs,h1,h2,h3,h4,h5⟩:=h;refine⟨bs,h1,by omega,?_,by simp,h5⟩;rw[h3,zbB hi,←hx,Nat.mod_eq_of_lt (show x<2^32 from hxl),show(4294967296:Nat)=2^32 from by decide,←Nat.pow_mul,Nat.pow_zero,Nat.mod_one,Nat.mul_zero];rfl
theorem zcd (A:Option Addr)(c:Nat)(xs:List Nat)(w:World)(h:Us w A c xs)(hl:xs.length≤1000000) :
  Calls Tryz.prog 117 #[.slice A xs.length c] w (RetB (val xs) w):=by
 obtain⟨i0,hi,hz0,hz1,hz2⟩:=info_parts Tryz.infoB;obtain⟨n,hn⟩:∃n,n=xs.length:=⟨_,rfl⟩;rw[←hn] at hl ⊢;have HN:=Hh hn;have HH:=Hh h;have HI:=Hh (And.intro hi (And.intro hz0 (And.intro hz1 hz2)));clear h hi hz0 hz1 hz2 hn;go_enter Tryz.func117,Tryz.ntmps117;go_wp2;go_loopw [3,4,5,6] (fun v iv _ _ wr=>∃i:Nat,i≤n∧iv=.int .i64 i∧zde n i 0 0 0 xs w v wr) (fun _ iv _ _ _=>n-(intOf iv).toNat)
 case atStart=>exact⟨0,Nat.zero_le _,rfl,[],OutB.nil _ _,rfl,rfl,rfl,Below.refl _ _⟩
 case round =>
  obtain⟨i,hi,rfl,R⟩:=hrel;have HR:=Hh R;clear R;by_cases hlt:i<n
  ·obtain⟨b,off,rfl,hb,hc⟩:=HH.out.at_ (by rw[←HN.out];omega)
   have hbw:Below w.heap.size w wr:=by obtain⟨_,_,_,_,_,h⟩:=HR.out;exact h
   have ex:=(hbw.cell (p:=⟨b,off+i,none⟩) hb).trans (hc i (by rw[←HN.out];exact hlt));obtain⟨x,hx⟩:∃x,x=xs[i]?.getD 0:=⟨_,rfl⟩;rw[←hx] at ex;have hxl:x<4294967296:=by rw[hx];exact HH.out.1.getD i
   have HX:=Hh hx;clear hc hx hbw;obtain⟨wo,rfl⟩:∃wo:World,wo=wr:=⟨_,rfl⟩;go_wp2;go_loopw [3,5,6] (fun v yv jv wr=>∃j y:Nat,j≤32∧jv=.int .i64 j∧yv=.int .u32 y∧y<4294967296∧zde n i j x y xs w v wr) (fun _ _ jv _=>32-(intOf jv).toNat)
   case atStart =>
    refine⟨0,x,by omega,rfl,rfl,hxl,?_⟩;obtain⟨bs,h1,h2,h3,h4,h5⟩:=HR.out;exact⟨bs,h1,h2,by rw[h3,Nat.pow_zero,Nat.mod_one,Nat.mod_one],by simp,h5⟩
   case round =>
    obtain⟨j,y,hj,rfl,rfl,hy,bs,h1,h2,h3,h4,h5⟩:=hrel;by_cases hj32:j<32
    ·obtain⟨bt,hbt⟩:∃bt,bt=(y%2==1):=⟨_,rfl⟩;have hbi:((y:Int)%2==1)=bt:=by
      rw[hbt];rcases Nat.mod_two_eq_zero_or_one y with h|h
      ·rw[h,show(y:Int)%2=0 from by omega];rfl
      ·rw[h,show(y:Int)%2=1 from by omega];rfl
     have HO:=Hh h1;have H2:=Hh h2;have H3:=Hh h3;have H4:=Hh h4;have H5:=Hh h5;have HBT:=Hh hbt;have hb32:bs.length≤32000064:=by omega
     clear h1 h2 h3 h4 h5 hbt;go_wp2_with (at_builtin;refine wpList_append_own_at _ rfl _ _ 163 rfl w.heap.size 4 i0 (.bool false) 1 1 Tryz.underlying163 HI.out.1 HI.out.2.1 HI.out.2.2.1 HI.out.2.2.2 rfl (by decide) _ _ _ rfl (HO.out.alloc _) ⟨_,0,none⟩ 1 1 [.bool bt] rfl rfl (cell_one_new _ _ _) (by simp[Value.oneCell']) (by simp only[maxLen];omega) (by omega) (by have:=H5.out.size;simp;omega) ?_;intro v2 w2 own2 grow2 _ at2);go_roundw
     case rel=>exact⟨j+1,y / 2,by omega,by go_num,by go_num,by omega,zde.next HO.out H2.out H3.out H4.out H5.out HBT.out own2 grow2⟩
     case measure=>simp[intOf] <;> omega
    ·obtain rfl:j=32:=by omega
     have RT:=Hh (zde.turn (n:=n) ⟨bs,h1,h2,h3,h4,h5⟩ (by rw[←HN.out];exact hlt) HX.out hxl 0);clear h1 h2 h3 h4 h5;go_wp2;go_roundw
     case rel=>exact⟨i+1,by omega,by go_num,RT.out⟩
     case measure=>simp[intOf] <;> omega
  ·obtain rfl:i=n:=by omega
   obtain⟨bs,h1,h2,h3,h4,h5⟩:=HR.out;obtain⟨A1,c1,hv⟩:=h1.shape;subst hv;have HO:=Hh h1;have H3:=Hh h3;have H5:=Hh h5;have hbl:bs.length≤100000000:=by omega
   clear h1 h2 h3 h4 h5 HR;go_wp2_with (go_at_call 159;refine(zpD A1 c1 bs _ (HO.out.reads rfl) hbl).mono ?_;rintro e w3 ⟨q,hq,rfl,k3,v3,b3⟩);go_ret;refine⟨A1,c1,bs.take q,by rw[List.length_take,Nat.min_eq_left hq];rfl,((HO.out.below b3).reads rfl).take hq,k3,?_,H5.out.trans (b3.mono H5.out.size)⟩;rw[v3,H3.out,Nat.pow_zero,Nat.mod_one,Nat.mul_zero,Nat.add_zero,zdd HN.out.symm]
def OutU (w:World)(base:Nat)(v:Value)(rs:List Nat):Prop:=Dig rs∧w.ownsRow base 136 1 v rs.length (rs.map u32v)
theorem OutU.nil (w:World)(base:Nat):OutU w base (.slice none 0 0) []:=⟨Dig.nil,World.ownsRow_nil _ _ _ _⟩
theorem OutU.shape {w:World}{base:Nat}{v:Value}{rs:List Nat}(h:OutU w base v rs):∃A c,v=.slice A rs.length c:=zcm h.2
theorem OutU.reads {w:World}{base:Nat}{A:Option Addr}{n c:Nat}{rs:List Nat}(h:OutU w base (.slice A n c) rs)(hn:n=rs.length):Us w A c rs:=by
 subst hn;exact⟨h.1,Rd.own h.2⟩
theorem OutU.snoc {w w0 w1:World}{base:Nat}{v v':Value}{rs:List Nat}{u:Nat}{o:Obj}(h:OutU w base v rs)(hu:u<4294967296)(hb:Below base w0 w)(h0:base≤w0.heap.size)
  (hown:w1.ownsRow base 136 1 v' (rs.length+1) (rs.map u32v++[.int .u32 (u:Int)])) (hg:(w.alloc o).grownBy w1 v.ownBlock) :
  OutU w1 base v' (rs++[u])∧Below base w0 w1:=by
 refine⟨⟨h.1.append (Dig.cons hu Dig.nil),?_⟩,?_⟩
 ·rw[List.length_append,List.map_append];exact hown
 ·have hs:=hb.size;refine(hb.alloc (Nat.le_trans h0 hs) o).grown hg (by simp;omega) (fun k hk=>?_);rcases h.2.2 with⟨rfl,_⟩|⟨g,cap,cur,rfl,h2,_⟩
  ·cases hk
  ·cases hk;exact h2
def zid (bs:List Bool)(i:Nat):Nat:=bval ((bs.drop i).take 32)
theorem zpE (bs:List Bool)(i:Nat):zid bs i<4294967296:=by
 refine Nat.lt_of_lt_of_le (zes _) ?_;rw[show(4294967296:Nat)=2^32 from by decide];exact Nat.pow_le_pow_right (by decide) (by rw[List.length_take];omega)
theorem zlB {bs:List Bool}{i j:Nat}(hj:j<32)(hij:i+j<bs.length):bval ((bs.drop i).take (j+1))=bval ((bs.drop i).take j)+2^j*(bs[i+j]?.getD false).toNat:=by
 rw[zcG (by rw[List.length_drop];omega),List.getElem?_drop]
def zke (i:Nat)(bs:List Bool)(w:World)(v:Value)(wr:World):Prop :=
 ∃q rs,i=32*q∧OutU wr w.heap.size v rs∧rs.length=q∧val rs=bval (bs.take i)∧(i<bs.length+32)∧(bs.length≤i→zbn bs→zaS rs)∧Below w.heap.size w wr
theorem zke.start (bs:List Bool)(w:World)(wr:World)(hb:Below w.heap.size w wr):zke 0 bs w (.slice none 0 0) wr :=
 ⟨0,[],rfl,OutU.nil _ _,rfl,rfl,by omega,fun _ _=>zbe,hb⟩
theorem zke.next {i:Nat}{bs:List Bool}{w wr w1:World}{v v':Value}{q:Nat}{rs:List Nat}{o:Obj}(h0:i=32*q)(h1:OutU wr w.heap.size v rs)(h2:rs.length=q)(h3:val rs=bval (bs.take i))(h4:Below w.heap.size w wr)(hi:i<bs.length)
  {u:Nat} (hu:u=zid bs i) (hown:w1.ownsRow w.heap.size 136 1 v' (rs.length+1) (rs.map u32v++[.int .u32 (u:Int)])) (hg:(wr.alloc o).grownBy w1 v.ownBlock):zke (i+32) bs w v' w1:=by
 obtain⟨k1,k2⟩:=h1.snoc (by rw[hu];exact zpE _ _) h4 (Nat.le_refl _) hown hg;have hs:=zhZ (bs.take (i+32)) i (by rw[List.length_take];omega);rw[List.take_take,Nat.min_eq_left (by omega),List.drop_take,Nat.add_sub_cancel_left] at hs;refine⟨q+1,_,by omega,k1,by rw[List.length_append,h2];rfl,?_,by omega,fun hle hc=>?_,k2⟩
 ·rw[zdT,h3,h2,hs,show(4294967296:Nat)=2^32 from by decide,←Nat.pow_mul,←h0,hu];simp[val,zid]
 ·have hlast:bs.length-1<bs.length:=by omega
  have:u≠0:=by
   rw[hu];intro e;unfold zid at e;rw[List.take_of_length_le (by rw[List.length_drop];omega)] at e;have hcd:zbn (bs.drop i):=by
    unfold zbn at hc ⊢
    rwa [List.getLast?_drop,if_neg (by omega)]
   have:=zgy hcd e;rw[List.drop_eq_nil_iff] at this;omega
  simpa [zaS] using this
def OfIn (ds:List Bool)(i k x p:Nat):Prop:=x=bval ((ds.drop i).take (k-i))∧p=2^(k-i)%4294967296
theorem OfIn.start (ds:List Bool)(i:Nat):OfIn ds i i 0 1:=by simp[OfIn,bval]
theorem OfIn.bound {ds:List Bool}{i k x p:Nat}(h:OfIn ds i k x p)(h1:i≤k)(h2:k<i+32):x<p∧p≤2147483648:=by
 obtain⟨rfl,rfl⟩:=h;have h3:2^(k-i)≤2^31:=Nat.pow_le_pow_right (by decide) (by omega);have h4:=zes ((ds.drop i).take (k-i));have h5:2^((ds.drop i).take (k-i)).length≤2^(k-i):=Nat.pow_le_pow_right (by decide) (by rw[List.length_take];omega);rw[Nat.mod_eq_of_lt (by omega)];omega
theorem OfIn.next {ds:List Bool}{i k x p:Nat}(h:OfIn ds i k x p)(h1:i≤k)(h2:k<i+32)(h3:k<ds.length){b:Bool}(hb:b=ds[k]?.getD false):OfIn ds i (k+1) (if b then x+p else x) (p*2%4294967296):=by
 obtain⟨rfl,rfl⟩:=h;have h4:2^(k-i)≤2^31:=Nat.pow_le_pow_right (by decide) (by omega);have e:k+1-i=k-i+1:=by omega
 refine⟨?_,?_⟩
 ·rw[e,zlB (by omega) (by omega),show i+(k-i)=k from by omega,←hb,Nat.mod_eq_of_lt (by omega)];cases b <;> simp
 ·rw[e,Nat.pow_succ];omega
theorem OfIn.last {ds:List Bool}{i k x p:Nat}(h:OfIn ds i k x p)(h1:i≤k)(h2:k≤i+32)(h3:k≤ds.length)(h4:¬ (k<ds.length∧k<i+32)):x=zid ds i:=by
 obtain⟨rfl,_⟩:=h;unfold zid;by_cases h5:k=i+32
 ·subst h5;rw[Nat.add_sub_cancel_left]
 ·rw[List.take_of_length_le (by rw[List.length_drop];omega),List.take_of_length_le (by rw[List.length_drop];omega)]
theorem zmU (A:Option Addr)(c:Nat)(bs:List Bool)(w:World)(h:Bl w A c bs)(hl:bs.length≤100000000) :
  Calls Tryz.prog 119 #[.slice A bs.length c] w (RetU (bval bs) w):=by
 obtain⟨i0,hi,hz0,hz1,hz2⟩:=info_parts Tryz.infoU;have HH:=Hh h;have HI:=Hh (And.intro hi (And.intro hz0 (And.intro hz1 hz2)));clear h hi hz0 hz1 hz2;obtain⟨s,hs⟩:∃s,s=bval bs:=⟨_,rfl⟩;rw[←hs];have HS:=Hh hs;clear hs;go_enter Tryz.func119,Tryz.ntmps119;go_wp2_with (go_at_call 159;refine(zpD A c bs _ HH.out hl).mono ?_;rintro e w0 ⟨n,hn,rfl,hcan,hval,hb0⟩);obtain⟨ds,hds⟩:∃ds,ds=bs.take n:=⟨_,rfl⟩;have hdl:n=ds.length:=by rw[hds,List.length_take,Nat.min_eq_left hn]
 have hD:Bl w0 A c ds:=by rw[hds];exact(HH.out.below hb0).take hn
 rw[←hds] at hcan hval;have hnl:n≤100000000:=by omega
 have HD:=Hh hD;have HDL:=Hh hdl;have HC:=Hh (And.intro hcan hval);have HB0:=Hh hb0;clear hds hdl hD hcan hval hb0 hn hl HH;go_loopw [3,4,5,6,7] (fun v iv _ _ _ wr=>∃i:Nat,i<n+32∧iv=.int .i64 i∧zke i ds w0 v wr) (fun _ iv _ _ _ _=>n-(intOf iv).toNat)
 case atStart=>exact⟨0,by omega,rfl,zke.start _ _ _ (Below.refl _ _)⟩
 case round =>
  obtain⟨i,hi,rfl,R⟩:=hrel;have HR:=Hh R;clear R;by_cases hlt:i<n
  ·obtain⟨wo,rfl⟩:∃wo:World,wo=wr:=⟨_,rfl⟩;go_wp2;go_loopw [5,6,7] (fun xv pv kv wr=>∃k x p:Nat,i≤k∧k≤i+32∧k≤n∧kv=.int .i64 (k:Int)∧xv=.int .u32 (x:Int)∧pv=.int .u32 (p:Int)∧OfIn ds i k x p∧wr=wo) (fun _ _ kv _=>i+32-(intOf kv).toNat)
   case atStart=>exact⟨i,0,1,Nat.le_refl _,by omega,by omega,rfl,rfl,rfl,OfIn.start _ _,rfl⟩
   case round =>
    obtain⟨k,x,p,hk1,hk2,hk3,rfl,rfl,rfl,hin,rfl⟩:=hrel;by_cases hgo:k<n∧k<i+32
    ·obtain⟨hg1,hg2⟩:=hgo;obtain⟨b,off,hA,hb,hc⟩:=HD.out.at_ (by rw[←HDL.out];omega)
     have hbw:Below w0.heap.size w0 wr:=by obtain⟨_,_,_,_,_,_,_,_,h⟩:=HR.out;exact h
     have ex:=(hbw.cell (p:=⟨b,off+k,none⟩) hb).trans (hc k (by rw[←HDL.out];exact hg1));obtain⟨bt,hbt⟩:∃bt,bt=ds[k]?.getD false:=⟨_,rfl⟩;rw[←hbt] at ex;obtain⟨hx1,hx2⟩:=hin.bound hk1 hg2;have HN1:=Hh (hin.next hk1 hg2 (by rw[←HDL.out];exact hg1) hbt);clear hc hbt hbw hin;subst hA;cases bt
     ·go_wp2;go_roundw
      case rel=>exact⟨k+1,_,p*2%4294967296,by omega,by omega,by omega,by go_num,rfl,by simp,HN1.out,by first|trivial|rfl⟩
      case measure=>simp[intOf] <;> omega
     ·go_wp2;go_roundw
      case rel=>exact⟨k+1,x+p,p*2%4294967296,by omega,by omega,by omega,by go_num,by simp,by simp,HN1.out,by first|trivial|rfl⟩
      case measure=>simp[intOf] <;> omega
    ·have hx:=hin.last hk1 hk2 (by rw[←HDL.out];exact hk3) (by rw[←HDL.out];omega);obtain⟨q,rs,r0,r1,r2,r3,r4,r5,r6⟩:=HR.out;have HX:=Hh hx;have HO:=Hh (And.intro r0 (And.intro r1 (And.intro r2 (And.intro r3 r6))));have hrl:rs.length≤100000000:=by omega
     clear hx r0 r1 r2 r3 r4 r5 r6 hin HR;have hstop:¬ (k<n∧k<i+32):=hgo;by_cases hkn:k<n
     ·have hki:¬ k<i+32:=by omega
      clear hgo hstop;go_wp2_with (at_builtin;refine wpList_append_own_at _ rfl _ _ 67 rfl w0.heap.size 136 i0 (.int .u32 0) 1 4 Tryz.underlying67 HI.out.1 HI.out.2.1 HI.out.2.2.1 HI.out.2.2.2 rfl (by decide) _ _ _ rfl (HO.out.2.1.2.alloc _) ⟨_,0,none⟩ 1 1 [.int .u32 (x:Int)] rfl rfl (cell_one_new _ _ _) (by simp[Value.oneCell']) (by simp only[maxLen];omega) (by omega) (by have:=HO.out.2.2.2.2.size;simp;omega) ?_;intro v2 w2 own2 grow2 _ at2);go_roundw
      case rel=>exact⟨i+32,by omega,by go_num,zke.next HO.out.1 HO.out.2.1 HO.out.2.2.1 HO.out.2.2.2.1 HO.out.2.2.2.2 (by rw[←HDL.out];exact hlt) HX.out own2 grow2⟩
      case measure=>simp[intOf] <;> omega
     ·clear hgo hstop;go_wp2_with (at_builtin;refine wpList_append_own_at _ rfl _ _ 67 rfl w0.heap.size 136 i0 (.int .u32 0) 1 4 Tryz.underlying67 HI.out.1 HI.out.2.1 HI.out.2.2.1 HI.out.2.2.2 rfl (by decide) _ _ _ rfl (HO.out.2.1.2.alloc _) ⟨_,0,none⟩ 1 1 [.int .u32 (x:Int)] rfl rfl (cell_one_new _ _ _) (by simp[Value.oneCell']) (by simp only[maxLen];omega) (by omega) (by have:=HO.out.2.2.2.2.size;simp;omega) ?_;intro v2 w2 own2 grow2 _ at2);go_roundw
      case rel=>exact⟨i+32,by omega,by go_num,zke.next HO.out.1 HO.out.2.1 HO.out.2.2.1 HO.out.2.2.2.1 HO.out.2.2.2.2 (by rw[←HDL.out];exact hlt) HX.out own2 grow2⟩
      case measure=>simp[intOf] <;> omega
  ·obtain⟨q,rs,r0,r1,r2,r3,r4,r5,r6⟩:=HR.out;obtain⟨A1,c1,hv⟩:=r1.shape;subst hv;have HO:=Hh (And.intro r1 (And.intro r3 (And.intro r5 r6)));clear r0 r1 r2 r3 r4 r5 r6 HR;go_wp2;go_ret;refine⟨A1,c1,rs,rfl,HO.out.1.reads rfl,HO.out.2.2.1 (by rw[←HDL.out];omega) HC.out.1,?_,HB0.out.trans (HO.out.2.2.2.mono HB0.out.size)⟩;rw[HO.out.2.1,List.take_of_length_le (by rw[←HDL.out];omega),HC.out.2,HS.out]
theorem zyF {A:Option Addr}{c n:Nat}{bs:List Bool}{w:World}(h:Bl w A c bs)(hn:bs.length=n)(hl:n≤100000000) :
  Calls Tryz.prog 119 #[.slice A n c] w (RetU (bval bs) w):=by
 subst hn;exact zmU A c bs w h hl
theorem zcy {xs:List Nat}{bs:List Bool}(hd:Dig xs)(hc:zbn bs)(hv:bval bs=val xs):bs.length≤32*xs.length:=by
 refine zvA hc ?_;rw[hv,Nat.pow_mul];exact zcl hd
theorem zpF (A:Option Addr)(c:Nat)(xs:List Nat)(w:World)(h:Us w A c xs)(hl:xs.length≤1000000) :
  Calls Tryz.prog 114 #[.slice A xs.length c] w (RetU (val xs) w):=by
 have HH:=Hh h;have hd:=h.1;clear h;go_enter Tryz.func114,Tryz.ntmps114;go_wp2_with (first
  | (go_at_call 117;refine(zcd A c xs _ HH.out hl).mono ?_;rintro e w1 ⟨A1,c1,bs,rfl,q1,k1,v1,b1⟩)
  | (go_at_call 119;refine(zmU A1 c1 bs _ q1 (by have:=zcy hd k1 v1;omega)).mono ?_;rintro e w2 ⟨A2,c2,rs,rfl,q2,k2,v2,b2⟩))
 go_ret;exact⟨A2,c2,rs,rfl,q2,k2,v2.trans v1,b1.trans (b2.mono b1.size)⟩
theorem zpG (x i:Nat):x / 2^i=2*(x / 2^(i+1))+(x.testBit i).toNat:=by
 rw[Nat.pow_succ,←Nat.div_div_eq_div_mul,Nat.testBit_eq_decide_div_mod_eq];have:=Nat.mod_two_eq_zero_or_one (x / 2^i);rcases this with h|h <;> simp[h] <;> omega
theorem zsK {x y i:Nat}(h:∀j,i≤j→x.testBit j=y.testBit j):x / 2^i=y / 2^i:=by
 refine Nat.eq_of_testBit_eq fun j=>?_;rw[Nat.testBit_div_two_pow,Nat.testBit_div_two_pow];exact h _ (by omega)
theorem zvJ {x y i:Nat}(h:∀j,i+1≤j→x.testBit j=y.testBit j)(hne:x.testBit i≠y.testBit i):cmpN x y=if x.testBit i then 1 else -1:=by
 have e:=zsK h;have hx:=zpG x i;have hy:=zpG y i;rw[e] at hx;have hp:=Nat.two_pow_pos i;have mx:=Nat.div_add_mod x (2^i);have my:=Nat.div_add_mod y (2^i);have lx:=Nat.mod_lt x hp;have ly:=Nat.mod_lt y hp;generalize y / 2^(i+1)=q at *;generalize x / 2^i=u at *;generalize y / 2^i=v at *;generalize 2^i=p at *;unfold cmpN;cases hxb:x.testBit i <;> cases hyb:y.testBit i <;> rw[hxb] at hne hx <;> rw[hyb] at hne hy
 ·exact absurd rfl hne
 ·have:u+1=v:=by simp at hx hy;omega
  subst this;rw[Nat.mul_add] at my;rw[if_pos (by omega)];rfl
 ·have:v+1=u:=by simp at hx hy;omega
  subst this;rw[Nat.mul_add] at mx;rw[if_neg (by omega),if_neg (by omega)];rfl
 ·exact absurd rfl hne
theorem zvK {x y:Nat}(h:∀j,0≤j→x.testBit j=y.testBit j):cmpN x y=0:=by
 have:x=y:=Nat.eq_of_testBit_eq fun j=>h j (Nat.zero_le _);subst this;simp[cmpN]
def zvL (n m:Nat)(w:World)(t:Value)(wx:World):Prop:=w=wx∧∃M:Nat,n≤M∧m≤M∧M≤32000000∧t=.int .i64 ((M:Int)-1)
theorem zbW {A:Option Addr}{c n:Nat}{bs:List Bool}{w:World}(h:Bl w A c bs)(hn:bs.length=n)(hl:n≤100000000)(k:Nat){r:Bool}(hr:r=bs[k]?.getD false) :
  Calls Tryz.prog 118 #[.slice A n c,.int .i64 (k:Int)] w fun e w'=>e=.returned (.bool r)∧w=w':=by
 subst hn;exact zvI h hl (by rw[hr];simp)
theorem zie {bs ds:List Bool}{q:Nat}(h:∀j,q+1≤j→bs[j]?.getD false=ds[j]?.getD false)(he:bs[q]?.getD false=ds[q]?.getD false):∀j,q≤j→bs[j]?.getD false=ds[j]?.getD false:=fun j hj=>by
 rcases Nat.lt_or_ge q j with h1|h1
 ·exact h j h1
 ·obtain rfl:j=q:=by omega
  exact he
theorem zmV {bs ds:List Bool}{q:Nat}(h:∀j,q+1≤j→bs[j]?.getD false=ds[j]?.getD false){x y:Bool}(hx:x=bs[q]?.getD false)(hy:y=ds[q]?.getD false)(hne:x≠y):cmpN (bval bs) (bval ds)=if x then 1 else -1:=by
 rw[zvJ (i:=q) (fun j hj=>by rw[zaT,zaT];exact h j hj) (by rw[zaT,zaT,←hx,←hy];exact hne),zaT,←hx]
theorem zsL (A B:Option Addr)(c d:Nat)(xs ys:List Nat)(w:World)(h:Us w A c xs)(k:Us w B d ys)(hx:xs.length≤1000000)(hy:ys.length≤1000000) :
  Calls Tryz.prog 120 #[.slice A xs.length c,.slice B ys.length d] w fun e w'=>e=.returned (.int .i64 (cmpN (val xs) (val ys)))∧Below w.heap.size w w':=by
 have H1:=Hh h;have H2:=Hh k;have hd:=h.1;have hd2:=k.1;clear h k;obtain⟨z,hz⟩:∃z,z=cmpN (val xs) (val ys):=⟨_,rfl⟩;rw[←hz];have HZ:=Hh hz;clear hz;go_enter Tryz.func120,Tryz.ntmps120;go_upto_region 2 with(first
  | (go_at_call_of 117 (Value.slice A xs.length c);refine(zcd A c xs _ H1.out hx).mono ?_;rintro e w1 ⟨A1,c1,bs,rfl,q1,k1,v1,b1⟩)
  | (go_at_call_of 117 (Value.slice B ys.length d);refine(zcd B d ys _ (H2.out.below b1) hy).mono ?_;rintro e w2 ⟨A2,c2,ds,rfl,q2,k2,v2,b2⟩))
 have l1:=zcy hd k1 v1;have l2:=zcy hd2 k2 v2;have Q1:=Hh (q1.below b2);have Q2:=Hh q2;have V:=Hh (And.intro v1 v2);have BB:=Hh (b1.trans (b2.mono b1.size));clear q1 q2 k1 k2 v1 v2 b1 b2 hd hd2 H1 H2;obtain⟨n,hn⟩:∃n,n=bs.length:=⟨_,rfl⟩;obtain⟨m,hm⟩:∃m,m=ds.length:=⟨_,rfl⟩;rw[←hn] at l1 ⊢;rw[←hm] at l2 ⊢;have HN:=Hh (And.intro hn hm);have ln:n≤32000000:=by omega
 have lm:m≤32000000:=by omega
 clear hn hm l1 l2 hx hy;go_cut [7] (fun t wx=>zvL n m w2 t wx)
 case first =>
  by_cases hnm:n<m
  ·go_wp2
   all_goals (go_meet;exact⟨rfl,m,by omega,by omega,by omega,by first|rfl|(congr 1;omega)⟩)
  ·go_wp2
   all_goals (go_meet;exact⟨rfl,n,by omega,by omega,by omega,by first|rfl|(congr 1;omega)⟩)
 case rest =>
  obtain⟨rfl,M,hM1,hM2,hM3,rfl⟩:=hcut;go_wp2_with fail;go_loopw [7] (fun tv wr=>∃(i:Nat) (t:Int),i≤M∧t=(i:Int)-1∧tv=.int .i64 t∧(∀j,i≤j→bs[j]?.getD false=ds[j]?.getD false)∧w2=wr) (fun tv _=>(intOf tv+1).toNat)
  case atStart =>
   refine⟨M,_,Nat.le_refl _,rfl,rfl,fun j hj=>?_,rfl⟩;rw[List.getElem?_eq_none (by rw[←HN.out.1];omega),List.getElem?_eq_none (by rw[←HN.out.2];omega)]
  case round =>
   obtain⟨i,t,hi,ht,rfl,hall,rfl⟩:=hrel;have HA:=Hh hall;clear hall;by_cases h0:0<i
   ·obtain⟨q,rfl⟩:∃q,i=q+1:=⟨i-1,by omega⟩;obtain rfl:t=(q:Int):=by omega
    clear ht;obtain⟨xb,hxb⟩:∃xb,xb=bs[q]?.getD false:=⟨_,rfl⟩;obtain⟨yb,hyb⟩:∃yb,yb=ds[q]?.getD false:=⟨_,rfl⟩;have HX:=Hh hxb;have HY:=Hh hyb;clear hxb hyb;cases xb <;> cases yb
    case false.false =>
     go_wp2_with (first
      | (go_at_call_of 118 (Value.slice A1 n c1);refine(zbW Q1.out HN.out.1.symm (by omega) q HX.out).mono ?_;rintro e w' ⟨rfl,rfl⟩)
      | (go_at_call_of 118 (Value.slice A2 m c2);refine(zbW Q2.out HN.out.2.symm (by omega) q HY.out).mono ?_;rintro e w' ⟨rfl,rfl⟩))
     go_roundw
     case rel=>exact⟨q,(q:Int)-1,by omega,rfl,rfl,zie HA.out (HX.out.symm.trans HY.out),by first|trivial|rfl⟩
     case measure=>simp[intOf] <;> omega
    case true.true =>
     go_wp2_with (first
      | (go_at_call_of 118 (Value.slice A1 n c1);refine(zbW Q1.out HN.out.1.symm (by omega) q HX.out).mono ?_;rintro e w' ⟨rfl,rfl⟩)
      | (go_at_call_of 118 (Value.slice A2 m c2);refine(zbW Q2.out HN.out.2.symm (by omega) q HY.out).mono ?_;rintro e w' ⟨rfl,rfl⟩))
     go_roundw
     case rel=>exact⟨q,(q:Int)-1,by omega,rfl,rfl,zie HA.out (HX.out.symm.trans HY.out),by first|trivial|rfl⟩
     case measure=>simp[intOf] <;> omega
    case false.true =>
     go_wp2_with (first
      | (go_at_call_of 118 (Value.slice A1 n c1);refine(zbW Q1.out HN.out.1.symm (by omega) q HX.out).mono ?_;rintro e w' ⟨rfl,rfl⟩)
      | (go_at_call_of 118 (Value.slice A2 m c2);refine(zbW Q2.out HN.out.2.symm (by omega) q HY.out).mono ?_;rintro e w' ⟨rfl,rfl⟩))
     go_ret;refine⟨?_,BB.out⟩;rw[HZ.out,←V.out.1,←V.out.2,zmV HA.out HX.out HY.out (by simp)];rfl
    case true.false =>
     go_wp2_with (first
      | (go_at_call_of 118 (Value.slice A1 n c1);refine(zbW Q1.out HN.out.1.symm (by omega) q HX.out).mono ?_;rintro e w' ⟨rfl,rfl⟩)
      | (go_at_call_of 118 (Value.slice A2 m c2);refine(zbW Q2.out HN.out.2.symm (by omega) q HY.out).mono ?_;rintro e w' ⟨rfl,rfl⟩))
     go_ret;refine⟨?_,BB.out⟩;rw[HZ.out,←V.out.1,←V.out.2,zmV HA.out HX.out HY.out (by simp)];rfl
   ·obtain rfl:i=0:=by omega
    obtain rfl:t = -1:=by omega
    clear ht h0;go_wp2;go_ret;refine⟨?_,BB.out⟩;rw[HZ.out,←V.out.1,←V.out.2,zvK (fun j hj=>by rw[zaT,zaT];exact HA.out j hj)];rfl
theorem zbO {xs:List Bool}(k:Nat):bval (xs.take (k+1))=bval (xs.take k)+2^k*(xs[k]?.getD false).toNat:=by
 rcases Nat.lt_or_ge k xs.length with h|h
 ·exact zcG h
 ·rw[List.take_of_length_le (by omega),List.take_of_length_le (by omega),List.getElem?_eq_none h];simp
def zfo (k:Nat)(bs ds:List Bool)(w:World)(cy:Bool)(v:Value)(wr:World):Prop :=
 ∃os,OutB wr w.heap.size v os∧os.length=k∧bval os+2^k*cy.toNat=bval (bs.take k)+bval (ds.take k)∧Below w.heap.size w wr
theorem zfo.next {k:Nat}{bs ds:List Bool}{w wr w1:World}{cy:Bool}{v v':Value}{os:List Bool}{o:Obj}(h0:OutB wr w.heap.size v os)(h1:os.length=k)(h2:bval os+2^k*cy.toNat=bval (bs.take k)+bval (ds.take k))(h4:Below w.heap.size w wr)
  {x y b cy':Bool} (hx:x=bs[k]?.getD false) (hy:y=ds[k]?.getD false) (hb:b=((x.toNat+y.toNat+cy.toNat)%2==1)) (hc:cy'=decide (1<x.toNat+y.toNat+cy.toNat))
  (hown:w1.ownsRow w.heap.size 4 1 v' (os.length+1) (os.map Value.bool++[.bool b])) (hg:(wr.alloc o).grownBy w1 v.ownBlock):zfo (k+1) bs ds w cy' v' w1:=by
 obtain⟨k1,k2⟩:=h0.snoc h4 (Nat.le_refl _) hown hg;refine⟨_,k1,by rw[List.length_append,h1];rfl,?_,k2⟩;rw[zbq,h1,zbO k,zbO k,←hx,←hy,Nat.pow_succ];generalize 2^k=p at *;have e:(bval [b])+2*cy'.toNat=x.toNat+y.toNat+cy.toNat:=by
  rw[hb,hc];cases x <;> cases y <;> cases cy <;> rfl
 have e2:p*bval [b]+p*(2*cy'.toNat)=p*x.toNat+p*y.toNat+p*cy.toNat:=by rw[←Nat.mul_add,e,Nat.mul_add,Nat.mul_add]
 rw[Nat.mul_assoc];omega
theorem zfo.last {k:Nat}{bs ds os:List Bool}{cy:Bool}(h1:os.length=k)(h2:bval os+2^k*cy.toNat=bval (bs.take k)+bval (ds.take k))(hb:bs.length<k)(hd:ds.length<k):bval os=bval bs+bval ds:=by
 rw[List.take_of_length_le (by omega),List.take_of_length_le (by omega)] at h2;have l1:=zes bs;have l2:=zes ds;have p1:2^bs.length≤2^(k-1):=Nat.pow_le_pow_right (by decide) (by omega);have p2:2^ds.length≤2^(k-1):=Nat.pow_le_pow_right (by decide) (by omega);have p3:2^k=2^(k-1)*2:=by rw[←Nat.pow_succ];congr 1;omega
 cases cy
 ·simpa using h2
 ·simp at h2;omega
theorem zsM (A B:Option Addr)(c d:Nat)(xs ys:List Nat)(w:World)(h:Us w A c xs)(k:Us w B d ys)(hx:xs.length≤1000000)(hy:ys.length≤1000000) :
  Calls Tryz.prog 86 #[.slice A xs.length c,.slice B ys.length d] w (RetU (val xs+val ys) w):=by
 obtain⟨i0,hi,hz0,hz1,hz2⟩:=info_parts Tryz.infoB;have HI:=Hh (And.intro hi (And.intro hz0 (And.intro hz1 hz2)));have H1:=Hh h;have H2:=Hh k;have hd:=h.1;have hd2:=k.1;clear h k hi hz0 hz1 hz2;go_enter Tryz.func86,Tryz.ntmps86;go_upto_region 2 with(first
  | (go_at_call_of 117 (Value.slice A xs.length c);refine(zcd A c xs _ H1.out hx).mono ?_;rintro e w1 ⟨A1,c1,bs,rfl,q1,k1,v1,b1⟩)
  | (go_at_call_of 117 (Value.slice B ys.length d);refine(zcd B d ys _ (H2.out.below b1) hy).mono ?_;rintro e w2 ⟨A2,c2,ds,rfl,q2,k2,v2,b2⟩))
 have l1:=zcy hd k1 v1;have l2:=zcy hd2 k2 v2;have Q1:=Hh (q1.below b2);have Q2:=Hh q2;have V:=Hh (And.intro v1 v2);have BB:=Hh (b1.trans (b2.mono b1.size));clear q1 q2 k1 k2 v1 v2 b1 b2 hd hd2 H1 H2;obtain⟨n,hn⟩:∃n,n=bs.length:=⟨_,rfl⟩;obtain⟨m,hm⟩:∃m,m=ds.length:=⟨_,rfl⟩;rw[←hn] at l1 ⊢;rw[←hm] at l2 ⊢;have HN:=Hh (And.intro hn hm);have ln:n≤32000000:=by omega
 have lm:m≤32000000:=by omega
 clear hn hm l1 l2 hx hy;go_wp2;go_loopw [7,8,9,10] (fun v cv iv _ wr=>∃(k:Nat) (cy:Bool),k≤n+m+1∧(k≤n+1∨k≤m+1)∧iv=.int .i64 k∧cv=.bool cy∧zfo k bs ds w2 cy v wr) (fun _ _ iv _ _=>n+m+2-(intOf iv).toNat)
 case atStart=>exact⟨0,false,by omega,by omega,rfl,rfl,[],OutB.nil _ _,rfl,by simp[bval],Below.refl _ _⟩
 case round =>
  obtain⟨k,cy,hk,hkk,rfl,rfl,os,r0,r1,r2,r3⟩:=hrel;have R:=Hh (And.intro r0 (And.intro r1 (And.intro r2 r3)));have hol:os.length≤64000001:=by omega
  clear r0 r1 r2 r3;by_cases hgo:k≤n∨k≤m
  ·obtain⟨x,hxb⟩:∃x,x=bs[k]?.getD false:=⟨_,rfl⟩;obtain⟨y,hyb⟩:∃y,y=ds[k]?.getD false:=⟨_,rfl⟩;have Q1':=Hh (Q1.out.below R.out.2.2.2);have Q2':=Hh (Q2.out.below R.out.2.2.2);have HX:=Hh hxb;have HY:=Hh hyb;clear hxb hyb;have hbs:=R.out.2.2.2.size;cases x <;> cases y <;> cases cy <;> by_cases hnm:n<m <;> (
    go_wp2_with (first
     | (at_builtin;refine wpList_append_own_at _ rfl _ _ 163 rfl w2.heap.size 4 i0 (.bool false) 1 1 Tryz.underlying163 HI.out.1 HI.out.2.1 HI.out.2.2.1 HI.out.2.2.2 rfl (by decide) _ _ _ rfl (R.out.1.alloc _) ⟨_,0,none⟩ 1 1 [.bool _] rfl rfl (cell_one_new _ _ _) (by simp[Value.oneCell']) (by simp only[maxLen];omega) (by omega) (by simp;omega) ?_;intro v2 w3 own2 grow2 _ at2)
     | (go_at_call_of 118 (Value.slice A1 n c1);refine(zbW Q1'.out HN.out.1.symm (by omega) k HX.out).mono ?_;rintro e w' ⟨rfl,rfl⟩)
     | (go_at_call_of 118 (Value.slice A2 m c2);refine(zbW Q2'.out HN.out.2.symm (by omega) k HY.out).mono ?_;rintro e w' ⟨rfl,rfl⟩))
    go_roundw
    case rel=>exact⟨k+1,_,by omega,by omega,by go_num,rfl,zfo.next R.out.1 R.out.2.1 R.out.2.2.1 R.out.2.2.2 HX.out HY.out (by decide) (by decide) own2 grow2⟩
    case measure=>simp[intOf] <;> omega)
  ·obtain⟨A3,c3,hv⟩:=R.out.1.shape;subst hv;have F:=Hh (zfo.last R.out.2.1 R.out.2.2.1 (by rw[←HN.out.1];omega) (by rw[←HN.out.2];omega));by_cases hnm:n<m <;> (
    go_wp2_with (go_at_call 119;refine(zmU A3 c3 os _ (R.out.1.reads rfl) (by omega)).mono ?_;rintro e w3 ⟨A4,c4,rs,rfl,q4,k4,v4,b4⟩);go_ret;exact⟨A4,c4,rs,rfl,q4,k4,by rw[v4,F.out,V.out.1,V.out.2],(BB.out.trans (R.out.2.2.2.mono BB.out.size)).trans (b4.mono (Nat.le_trans BB.out.size R.out.2.2.2.size))⟩)
def RetS (a b:Nat)(w:World)(e:Ending)(w':World):Prop :=
 (a<b→e=.returned (.tuple #[.slice none 0 0,.bool false])∧Below w.heap.size w w') ∧
 (b≤a→∃A c rs,e=.returned (.tuple #[.slice A rs.length c,.bool true])∧Us w' A c rs∧zaS rs∧val rs=a-b∧Below w.heap.size w w')
def zgJ (n:Nat)(xs ys:List Nat)(w:World)(g k bo:Nat)(rs:List Nat)(wr:World):Prop :=
 bo≤1∧OwnU wr w.heap.size g n rs∧val (rs.take k)+val (ys.take k)=val (xs.take k)+4294967296^k*bo∧Below w.heap.size w wr
theorem zgJ.next {n k bo g:Nat}{xs ys rs:List Nat}{w wr:World}(h:zgJ n xs ys w g k bo rs wr)(hn:xs.length=n)(hk:k<n)(hd:Dig xs)(hd2:Dig ys){x y:Nat}(hx:x=xs[k]?.getD 0)(hy:y=ys[k]?.getD 0) :
  zgJ n xs ys w g (k+1) (zen x y bo) (rs.set k (zcn x y bo)) (wr.setCell ⟨g,k,none⟩ (.int .u32 ((zcn x y bo:Nat):Int))):=by
 obtain⟨h1,h2,h3,h4⟩:=h;have hl:=h2.2.1;have hxl:x<4294967296:=by rw[hx];exact hd.getD k
 have hyl:y<4294967296:=by rw[hy];exact hd2.getD k
 refine⟨zpz _ _ _,h2.set k (zgG _ _ _),?_,h4.setCell (p:=⟨g,k,none⟩) h2.base _⟩;have e:=zxt hxl hyl h1;rw[zcx _ (by omega),zcb k,zcb k,←hx,←hy,Nat.pow_succ];generalize 4294967296^k=p at *;have e2:p*zcn x y bo+p*y+p*bo=p*x+p*(4294967296*zen x y bo):=by rw[←Nat.mul_add,←Nat.mul_add,e,Nat.mul_add]
 rw[Nat.mul_assoc];omega
theorem zgJ.last {n bo g:Nat}{xs ys rs:List Nat}{w wr:World}(h:zgJ n xs ys w g n bo rs wr)(hn:xs.length=n)(hd:Dig xs)(hle:val ys≤val xs):val rs=val xs-val ys:=by
 obtain⟨h1,h2,h3,h4⟩:=h;have l1:=zcl hd;have l2:=zcl h2.1;rw[h2.2.1] at l2;rw[hn] at l1;rw[zdd h2.2.1,zdd hn] at h3;have hy:val (ys.take n)=val ys:=by
  rcases Nat.lt_or_ge ys.length n with hlt|hge
  ·rw[List.take_of_length_le (by omega)]
  ·have:=zcN ys n hge;generalize 4294967296^n=p at *;rcases Nat.eq_zero_or_pos (val (ys.drop n)) with h0|h0
   ·rw[h0] at this;omega
   ·have:p*1≤p*val (ys.drop n):=Nat.mul_le_mul_left _ h0;omega
 rw[hy] at h3;generalize 4294967296^n=p at *;rcases Nat.le_one_iff_eq_zero_or_eq_one.1 h1 with rfl|rfl
 ·omega
 ·omega
theorem zpH {A B:Option Addr}{c d:Nat}{xs ys:List Nat}{w:World}(h:Us w A c xs)(k:Us w B d ys){n m:Nat}(hn:n=xs.length)(hm:m=ys.length)(hx:n≤1000000)(hy:m≤1000000){z:Int}(hz:z=cmpN (val xs) (val ys)) :
  Calls Tryz.prog 182 #[.slice A n c,.slice B m d] w fun e w'=>e=.returned (.int .i64 z)∧Below w.heap.size w w':=by
 subst hn hm hz;exact zly A B c d xs ys w h k hx hy
theorem zfY {a b:Nat}:cmpN a b<0↔a<b:=by unfold cmpN;split <;> (try split) <;> omega
theorem zlC (A B:Option Addr)(c d:Nat)(xs ys:List Nat)(w:World)(h:Us w A c xs)(k:Us w B d ys)(hx:xs.length≤1000000)(hy:ys.length≤1000000) :
  Calls Tryz.prog 175 #[.slice A xs.length c,.slice B ys.length d] w (RetS (val xs) (val ys) w):=by
 obtain⟨i0,hi,hz0,hz1,hz2⟩:=info_parts Tryz.infoU;obtain⟨n,hn⟩:∃n,n=xs.length:=⟨_,rfl⟩;obtain⟨m,hm⟩:∃m,m=ys.length:=⟨_,rfl⟩;obtain⟨z,hz⟩:∃z,z=cmpN (val xs) (val ys):=⟨_,rfl⟩;rw[←hn,←hm];have hln:n≤1000000:=by omega
 have hlm:m≤1000000:=by omega
 have HN:=Hh hn;have HM:=Hh hm;have H1:=Hh h;have H2:=Hh k;have HI:=Hh (And.intro hi (And.intro hz0 (And.intro hz1 hz2)));have HZ:=Hh hz;clear h k hi hz0 hz1 hz2 hn hm hx hy hz;by_cases hlt:val xs<val ys
 ·have zneg:z<0:=by rw[HZ.out];exact zfY.2 hlt
  have HLT:=Hh hlt;clear hlt;go_enter Tryz.func175,Tryz.ntmps175;go_wp2_with (go_at_call 182;refine(zpH H1.out H2.out HN.out HM.out hln hlm HZ.out).mono ?_;rintro e w1 ⟨rfl,b1⟩);go_ret2;exact⟨fun _=>⟨rfl,b1⟩,fun h=>absurd HLT.out (by omega)⟩
 ·have zneg:¬ z<0:=by rw[HZ.out];exact fun h=>hlt (zfY.1 h)
  have HLE:=Hh (show val ys≤val xs by omega);clear hlt;go_enter Tryz.func175,Tryz.ntmps175;go_wp2_with (first
   | (go_at_call 182;refine(zpH H1.out H2.out HN.out HM.out hln hlm HZ.out).mono ?_;rintro e w1 ⟨rfl,b1⟩)
   | (at_make;refine wpList_make_full _ rfl _ _ 67 rfl w1.heap.size 136 i0 _ 1 Tryz.underlying67 HI.out.1 HI.out.2.1 HI.out.2.2.1 .i64 .i64 _ _ n rfl rfl (by omega) (by omega) (by rw[HI.out.2.2.2];omega) (by unfold maxLen;omega) (Nat.le_refl _) ?_;intro w0 hown0 hgrow0))
  have own0:=OwnU.made hown0;have hb0:Below w1.heap.size w1 w0:=(Below.refl _ _).grown hgrow0 (Nat.le_refl _) (fun k hk=>by cases hk);have R0:=Hh (show zgJ n xs ys w1 w1.heap.size 0 0 (List.replicate n 0) w0 from⟨by omega,own0,by simp[val],hb0⟩);have B1:=Hh b1;clear hown0 hgrow0 own0 hb0 b1;generalize w1.heap.size=g at R0 ⊢;go_loopw [7,19] (fun cv i wr=>∃(k bo:Nat) (rs:List Nat),k≤n∧i=.int .i64 k∧cv=.int .u32 bo∧zgJ n xs ys w1 g k bo rs wr) (fun _ i _=>n-(intOf i).toNat)
  case atStart=>exact⟨0,0,_,Nat.zero_le _,rfl,rfl,R0.out⟩
  case round =>
   obtain⟨k,bo,rs,hk,rfl,rfl,R⟩:=hrel;have hbo:=R.1;by_cases hlt:k<n
   ·have h1':=H1.out.below B1.out;obtain⟨b,off,rfl,hb,hc⟩:=h1'.at_ (by rw[←HN.out];omega)
    have ex:=(R.2.2.2.cell (p:=⟨b,off+k,none⟩) hb).trans (hc k (by rw[←HN.out];exact hlt));obtain⟨x,hxx⟩:∃x,x=xs[k]?.getD 0:=⟨_,rfl⟩;obtain⟨y,hyy⟩:∃y,y=ys[k]?.getD 0:=⟨_,rfl⟩;rw[←hxx] at ex;have hxl:x<4294967296:=by rw[hxx];exact H1.out.1.getD k
    have hyl:y<4294967296:=by rw[hyy];exact H2.out.1.getD k
    have ec:=R.2.1.cell (k:=k) (by omega);have fc:=R.2.1.free k;have RR:=Hh (R.next HN.out.symm hlt H1.out.1 H2.out.1 hxx hyy);have H3:=Hh ((H2.out.below B1.out).below R.2.2.2);have HY:=Hh hyy;clear hc hxx hyy R h1';go_wp2_with (first
     | (go_at_call 203;refine(zuV H3.out HM.out.symm hlm k HY.out).mono ?_;rintro e w' ⟨rfl,rfl⟩)
     | (go_at_call 204;refine(zpA x y bo _ hxl hyl hbo).mono ?_;rintro e w' ⟨rfl,rfl⟩))
    go_roundw
    case rel=>exact⟨k+1,_,_,by omega,by go_num,rfl,RR.out⟩
    case measure=>simp[intOf] <;> omega
   ·obtain rfl:k=n:=by omega
    have F:=Hh (R.last HN.out.symm H1.out.1 HLE.out);have HSZ:=Hh R.2.1.2.1;have RD:=Hh R.2.1.reads;have HB:=Hh R.2.2.2;clear R hlt hk;go_wp2_with (go_at_call 200;refine(zlx RD.out HSZ.out (by omega)).mono ?_;rintro e w3 ⟨A3,c3,r3,rfl,q3,k3,v3,b3⟩);go_ret2;exact⟨fun h=>absurd HLE.out (by omega),fun _=>⟨A3,c3,r3,rfl,q3,k3,v3.trans F.out,(B1.out.trans (HB.out.mono B1.out.size)).trans (b3.mono (Nat.le_trans B1.out.size HB.out.size))⟩⟩
def zet (k:Nat)(bs ds:List Bool)(w:World)(bo:Bool)(v:Value)(wr:World):Prop :=
 ∃os,OutB wr w.heap.size v os∧os.length=k∧bval os+bval (ds.take k)=bval (bs.take k)+2^k*bo.toNat∧Below w.heap.size w wr
theorem zet.next {k:Nat}{bs ds:List Bool}{w wr w1:World}{bo:Bool}{v v':Value}{os:List Bool}{o:Obj}(h0:OutB wr w.heap.size v os)(h1:os.length=k)(h2:bval os+bval (ds.take k)=bval (bs.take k)+2^k*bo.toNat)(h4:Below w.heap.size w wr)
  {x y b bo':Bool} (hx:x=bs[k]?.getD false) (hy:y=ds[k]?.getD false) (hb:b.toNat+y.toNat+bo.toNat=x.toNat+2*bo'.toNat)
  (hown:w1.ownsRow w.heap.size 4 1 v' (os.length+1) (os.map Value.bool++[.bool b])) (hg:(wr.alloc o).grownBy w1 v.ownBlock):zet (k+1) bs ds w bo' v' w1:=by
 obtain⟨k1,k2⟩:=h0.snoc h4 (Nat.le_refl _) hown hg;refine⟨_,k1,by rw[List.length_append,h1];rfl,?_,k2⟩;rw[zbq,h1,zbO k,zbO k,←hx,←hy,Nat.pow_succ];generalize 2^k=p at *;have e0:bval [b]=b.toNat:=by simp[bval]
 have e2:p*b.toNat+p*y.toNat+p*bo.toNat=p*x.toNat+p*(2*bo'.toNat):=by rw[←Nat.mul_add,←Nat.mul_add,hb,Nat.mul_add]
 rw[Nat.mul_assoc,e0];omega
theorem zet.last {k:Nat}{bs ds os:List Bool}{bo:Bool}(h1:os.length=k)(h2:bval os+bval (ds.take k)=bval (bs.take k)+2^k*bo.toNat)(hb:bs.length=k)(hle:bval ds≤bval bs):bval os=bval bs-bval ds:=by
 rw[List.take_of_length_le (show bs.length≤k by omega)] at h2;have l1:=zes bs;have l2:=zes os;rw[h1] at l2;rw[hb] at l1;have hy:bval (ds.take k)=bval ds:=by
  rcases Nat.lt_or_ge ds.length k with hlt|hge
  ·rw[List.take_of_length_le (by omega)]
  ·have:=zhZ ds k hge;generalize 2^k=p at *;rcases Nat.eq_zero_or_pos (bval (ds.drop k)) with h0|h0
   ·rw[h0] at this;omega
   ·have:p*1≤p*bval (ds.drop k):=Nat.mul_le_mul_left _ h0;omega
 rw[hy] at h2;cases bo
 ·simp at h2;omega
 ·simp at h2;omega
theorem zmW {A B:Option Addr}{c d:Nat}{xs ys:List Nat}{w:World}(h:Us w A c xs)(k:Us w B d ys)(hx:xs.length≤1000000)(hy:ys.length≤1000000){z:Int}(hz:z=cmpN (val xs) (val ys)) :
  Calls Tryz.prog 120 #[.slice A xs.length c,.slice B ys.length d] w fun e w'=>e=.returned (.int .i64 z)∧Below w.heap.size w w':=by
 subst hz;exact zsL A B c d xs ys w h k hx hy
theorem ziV (A B:Option Addr)(c d:Nat)(xs ys:List Nat)(w:World)(h:Us w A c xs)(k:Us w B d ys)(hx:xs.length≤1000000)(hy:ys.length≤1000000) :
  Calls Tryz.prog 87 #[.slice A xs.length c,.slice B ys.length d] w (RetS (val xs) (val ys) w):=by
 obtain⟨i0,hi,hz0,hz1,hz2⟩:=info_parts Tryz.infoB;obtain⟨z,hz⟩:∃z,z=cmpN (val xs) (val ys):=⟨_,rfl⟩;have HI:=Hh (And.intro hi (And.intro hz0 (And.intro hz1 hz2)));have H1:=Hh h;have H2:=Hh k;have HZ:=Hh hz;have hd:=h.1;have hd2:=k.1;clear h k hi hz0 hz1 hz2 hz;by_cases hlt:val xs<val ys
 ·have zneg:z<0:=by rw[HZ.out];exact zfY.2 hlt
  have HLT:=Hh hlt;clear hlt;go_enter Tryz.func87,Tryz.ntmps87;go_wp2_with (go_at_call 120;refine(zmW H1.out H2.out hx hy HZ.out).mono ?_;rintro e w1 ⟨rfl,b1⟩);go_ret2;exact⟨fun _=>⟨rfl,b1⟩,fun h=>absurd HLT.out (by omega)⟩
 ·have zneg:¬ z<0:=by rw[HZ.out];exact fun h=>hlt (zfY.1 h)
  have HLE:=Hh (show val ys≤val xs by omega);clear hlt;go_enter Tryz.func87,Tryz.ntmps87;go_upto_region 4 with(first
   | (go_at_call 120;refine(zmW H1.out H2.out hx hy HZ.out).mono ?_;rintro e w1 ⟨rfl,b0⟩)
   | (go_at_call_of 117 (Value.slice A xs.length c);refine(zcd A c xs _ (H1.out.below b0) hx).mono ?_;rintro e w1' ⟨A1,c1,bs,rfl,q1,k1,v1,b1⟩)
   | (go_at_call_of 117 (Value.slice B ys.length d);refine(zcd B d ys _ ((H2.out.below b0).below b1) hy).mono ?_;rintro e w2 ⟨A2,c2,ds,rfl,q2,k2,v2,b2⟩))
  have l1:=zcy hd k1 v1;have l2:=zcy hd2 k2 v2;have Q1:=Hh (q1.below b2);have Q2:=Hh q2;have V:=Hh (And.intro v1 v2);have BB:=Hh (b0.trans ((b1.trans (b2.mono b1.size)).mono b0.size));clear q1 q2 k1 k2 v1 v2 b0 b1 b2 hd hd2 H1 H2;obtain⟨n,hn⟩:∃n,n=bs.length:=⟨_,rfl⟩;obtain⟨m,hm⟩:∃m,m=ds.length:=⟨_,rfl⟩;rw[←hn] at l1 ⊢;rw[←hm] at l2 ⊢;have HN:=Hh (And.intro hn hm);have ln:n≤32000000:=by omega
  have lm:m≤32000000:=by omega
  clear hn hm l1 l2 hx hy;go_wp2;go_loopw [8,9,10,11] (fun v cv iv _ wr=>∃(k:Nat) (bo:Bool),k≤n∧iv=.int .i64 k∧cv=.int .i64 (bo.toNat:Int)∧zet k bs ds w2 bo v wr) (fun _ _ iv _ _=>n-(intOf iv).toNat)
  case atStart=>exact⟨0,false,by omega,rfl,rfl,[],OutB.nil _ _,rfl,by simp[bval],Below.refl _ _⟩
  case round =>
   obtain⟨k,bo,hk,rfl,rfl,os,r0,r1,r2,r3⟩:=hrel;have R:=Hh (And.intro r0 (And.intro r1 (And.intro r2 r3)));have hol:os.length≤64000001:=by omega
   clear r0 r1 r2 r3;by_cases hgo:k<n
   ·obtain⟨x,hxb⟩:∃x,x=bs[k]?.getD false:=⟨_,rfl⟩;obtain⟨y,hyb⟩:∃y,y=ds[k]?.getD false:=⟨_,rfl⟩;have Q1':=Hh (Q1.out.below R.out.2.2.2);have Q2':=Hh (Q2.out.below R.out.2.2.2);have HX:=Hh hxb;have HY:=Hh hyb;clear hxb hyb;have hbs:=R.out.2.2.2.size;cases x <;> cases y <;> cases bo <;> (
     (try simp only[Bool.toNat_false,Bool.toNat_true,Int.cast_ofNat_Int])
     go_wp2_with (first
      | (at_builtin;refine wpList_append_own_at _ rfl _ _ 163 rfl w2.heap.size 4 i0 (.bool false) 1 1 Tryz.underlying163 HI.out.1 HI.out.2.1 HI.out.2.2.1 HI.out.2.2.2 rfl (by decide) _ _ _ rfl (R.out.1.alloc _) ⟨_,0,none⟩ 1 1 [.bool _] rfl rfl (cell_one_new _ _ _) (by simp[Value.oneCell']) (by simp only[maxLen];omega) (by omega) (by simp;omega) ?_;intro v2 w3 own2 grow2 _ at2)
      | (go_at_call_of 118 (Value.slice A1 n c1);refine(zbW Q1'.out HN.out.1.symm (by omega) k HX.out).mono ?_;rintro e w' ⟨rfl,rfl⟩)
      | (go_at_call_of 118 (Value.slice A2 m c2);refine(zbW Q2'.out HN.out.2.symm (by omega) k HY.out).mono ?_;rintro e w' ⟨rfl,rfl⟩))
     go_roundw
     case rel=>first
      | exact⟨k+1,false,by omega,by go_num,rfl,zet.next R.out.1 R.out.2.1 R.out.2.2.1 R.out.2.2.2 HX.out HY.out (by decide) own2 grow2⟩
      | exact⟨k+1,true,by omega,by go_num,rfl,zet.next R.out.1 R.out.2.1 R.out.2.2.1 R.out.2.2.2 HX.out HY.out (by decide) own2 grow2⟩
     case measure=>simp[intOf] <;> omega)
   ·obtain rfl:k=n:=by omega
    obtain⟨A3,c3,hv⟩:=R.out.1.shape;subst hv;have F:=Hh (zet.last R.out.2.1 R.out.2.2.1 HN.out.1.symm (by rw[V.out.1,V.out.2];exact HLE.out));go_wp2_with (go_at_call 119;refine(zmU A3 c3 os _ (R.out.1.reads rfl) (by omega)).mono ?_;rintro e w3 ⟨A4,c4,rs,rfl,q4,k4,v4,b4⟩);go_ret2;exact⟨fun h=>absurd HLE.out (by omega),fun _=>⟨A4,c4,rs,rfl,q4,k4,by rw[v4,F.out,V.out.1,V.out.2],(BB.out.trans (R.out.2.2.2.mono BB.out.size)).trans (b4.mono (Nat.le_trans BB.out.size R.out.2.2.2.size))⟩⟩
end Go.Proofs.YtbabbmdpgpcgjaaGreatDoor
