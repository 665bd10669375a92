import Derived.Test.YtfjajpnfjjdnpaaGreatDoorVFtF
import Derived.Test.YtfjajpnfjjdnpaaGreatDoorLaidR

set_option linter.unusedVariables false
set_option linter.unusedSimpArgs false
set_option maxRecDepth 100000
set_option maxHeartbeats 6400000
namespace Go.Proofs.YtfjajpnfjjdnpaaGreatDoor
open Go.RowKit Num Nds Txt
theorem zeP:∀(l:List UInt8) (i:Nat),(zae l).length≤i→l.getD i 0=0
 | [],i,_=>by simp
 | y :: r,i,h=>by
  have e:zae (y :: r)=if y=0∧zae r=[] then [] else y :: zae r:=rfl
  by_cases hc:y=0∧zae r=[]
  ·cases i with
   | zero=>exact hc.1
   | succ i=>exact zeP r i (by rw[hc.2];exact Nat.zero_le _)
  ·rw[e,if_neg hc,List.length_cons] at h;obtain⟨j,rfl⟩:∃j,i=j+1:=⟨i-1,by omega⟩;exact zeP r j (by omega)
theorem zhc (s:ByteArray)(w:World)(hs:s.size≤1000000)(B:Bool)(hB:B=decide (zae s.data.toList=[])) :
  Calls Tryz.prog 34 #[.string s] w fun e w'=>e=.returned (.bool B)∧w'=w:=by
 have HB:=Hh hB;clear hB;go_enter Tryz.func34,Tryz.ntmps34;go_wp2_with fail;go_loopw [3] (fun z1 wr=>∃(i:Nat),z1=.int .i64 i∧i≤s.size∧zae (s.data.toList.take i)=[]∧wr=w) (fun z1 _=>s.size-(intOf z1).toNat)
 case atStart=>exact⟨0,rfl,Nat.zero_le _,by rw[List.take_zero];rfl,rfl⟩
 case round =>
  obtain⟨i,rfl,hi,hm,rfl⟩:=hrel;have HM:=Hh hm;have iw:IntKind.i64.wrap ((i:Int)+1)=(i:Int)+1:=IntWalk.i64_in _ (by omega);clear hm;by_cases hlt:i<s.size
  ·have hgt:=zcG hlt;have HTK:=Hh (zpm hgt);have HGT:=Hh hgt;have HLT:=Hh hlt;have i0:(0:Int)≤(i:Int):=by omega
   have i1:(i:Int)<(s.size:Int):=by omega
   have j3:decide ((i:Int)<(s.size:Int))=true:=decide_eq_true i1;clear hgt;by_cases hx:(s[i]'hlt).toNat=0
   ·have u1:((((s[i]'hlt).toNat:Nat):Int)!=0)=false:=by rw[hx];rfl
    have HX:=Hh (UInt8.toNat_inj.1 (show(s[i]'hlt).toNat=(0:UInt8).toNat from hx));clear hx;go_wp2_with fail;go_roundw
    case rel=>exact⟨i+1,by go_num,HLT.out,List.eq_nil_of_length_eq_zero (by rw[HTK.out,if_pos HX.out,HM.out];rfl),trivial⟩
    case measure=>have:=HLT.out;simp[intOf];omega
   ·have u1:((((s[i]'hlt).toNat:Nat):Int)!=0)=true:=by rw[bne_iff_ne];omega
    have hb:B=false:=by
     rw[HB.out];refine decide_eq_false fun e=>hx ?_;have h1:=zeP s.data.toList i (by rw[e];exact Nat.zero_le _);rw[List.getD_eq_getElem?_getD,HGT.out] at h1;have h2:s[i]'hlt=0:=h1;rw[h2];rfl
    subst hb;clear hx;go_wp2_with fail;go_ret;exact⟨rfl,rfl⟩
  ·have e:i=s.size:=by omega
   have t9:decide ((i:Int)<(s.size:Int))=false:=decide_eq_false (by omega);have t10:decide (i<s.size)=false:=decide_eq_false hlt;have t11:(i<s.size)=False:=eq_false hlt;have hb:B=true:=by
    rw[HB.out];refine decide_eq_true ?_;have:=HM.out
    rwa [List.take_of_length_le (by rw[zav];omega)] at this
   subst hb;clear hlt e;go_wp2_with fail;go_ret;exact⟨rfl,rfl⟩
def SgnS (l:List UInt8):Prop:=l≠[]∧l.length≤2∧∀c,l.head?=some c→Digs.isd c=false
def tokD (n:Nat):List UInt8:=if n=1 then [] else Digs.digs n
theorem zup (n:Nat)(s:List UInt8):tokR n s=tokD n++s:=by
 unfold tokR tokD;split <;> rfl
theorem zrl {n:Nat}(h:n<100):(tokD n).length≤2:=by
 unfold tokD;split
 ·exact Nat.zero_le _
 ·exact zel h
theorem zrm {n:Nat}:∀c∈tokD n,Digs.isd c=true:=fun c hc=>by
 unfold tokD at hc;split at hc
 ·cases hc
 ·exact Digs.digs_isd _ _ hc
theorem ztm {l:List UInt8}(h:l.length≤1)(hd:∀c∈l,Digs.isd c=true):Digs.num l<10:=by
 have h1:=Digs.num_lt l hd;have h2:10^l.length≤10^1:=Nat.pow_le_pow_right (by decide) h;omega
theorem zhd (n:Nat)(s:ByteArray)(w:World)(hn:n<100)(hs:SgnS s.data.toList) :
  Calls Tryz.prog 35 #[.string ⟨(tokR n s.data.toList).toArray⟩] w fun e w'=>e=.returned (.tuple #[.int .i64 (n:Int),.string s])∧Below w.heap.size w w':=by
 obtain⟨t,ht⟩:∃t:ByteArray,t=⟨(tokR n s.data.toList).toArray⟩:=⟨_,rfl⟩;rw[←ht];obtain⟨d,hd⟩:∃d,d=tokD n:=⟨_,rfl⟩;have htd:t.data.toList=d++s.data.toList:=by rw[ht,hd];exact zup _ _
 have hdl:d.length≤2:=by rw[hd];exact zrl hn
 have HDI:=Hh (show ∀c∈d,Digs.isd c=true by rw[hd];exact zrm);have HD:=Hh hd;have HTD:=Hh htd;have HS:=Hh hs;have htz:t.size=d.length+s.size:=by
  have h1:=congrArg List.length htd;rw[List.length_append,zav,zav] at h1;exact h1
 have hs0:0<s.size:=by
  have:=List.length_pos_iff.2 hs.1;rw[zav] at this;exact this
 have hs2:s.size≤2:=by
  have:=hs.2.1;rw[zav] at this;exact this
 have HZ:=Hh htz;have HDL:=Hh hdl;clear ht hd htd hs;go_enter Tryz.func35,Tryz.ntmps35;go_wp2_with fail;go_loopw [5,4] (fun z1 z2 wr=>∃(i:Nat),z1=.int .i64 i∧z2=.int .i64 (Digs.num (d.take i):Nat)∧i≤d.length∧wr=w) (fun z1 _ _=>d.length-(intOf z1).toNat)
 case atStart=>exact⟨0,rfl,by rw[List.take_zero];rfl,Nat.zero_le _,rfl⟩
 case round =>
  obtain⟨i,rfl,rfl,hi,rfl⟩:=hrel;have hlt:i<t.size:=by omega
  have hgt:=zcG hlt;have kw:IntKind.i64.wrap ((i:Int)+1)=(i:Int)+1:=IntWalk.i64_in _ (by omega);have i0:(0:Int)≤(i:Int):=by omega
  have i1:(i:Int)<(t.size:Int):=by omega
  have j1:decide ((i:Int)<(t.size:Int))=true:=decide_eq_true i1;have j2:decide ((i:Int)<6)=true:=decide_eq_true (by omega);obtain⟨c,hc⟩:∃c,c=(t[i]'hlt).toNat:=⟨_,rfl⟩;have hc9:c<256:=by rw[hc];exact UInt8.toNat_lt _
  obtain⟨m,hm⟩:∃m,m=Digs.num (d.take i):=⟨_,rfl⟩;rw[←hm];by_cases hid:i<d.length
  ·have hb:d[i]?=some (t[i]'hlt):=by
    rw[←hgt,HTD.out,List.getElem?_append_left hid]
   have hdg:=HDI.out _ (List.mem_of_getElem? hb);unfold Digs.isd at hdg;have hdg2:=of_decide_eq_true hdg;rw[←hc] at hdg2;have hm9:m<10:=by
    rw[hm];exact ztm (by rw[List.length_take];omega) (fun c hc=>HDI.out c (List.mem_of_mem_take hc))
   have HM:=Hh (show Digs.num (d.take (i+1))=10*m+(c-48) by
    rw[List.take_add_one,hb];show Digs.num (d.take i++[t[i]'hlt])=_;rw[Digs.num_snoc,hm,hc];omega)
   have t1:decide ((((t[i]'hlt).toNat:Nat):Int)≥48)=true:=decide_eq_true (by omega);have t2:decide ((((t[i]'hlt).toNat:Nat):Int)≤57)=true:=decide_eq_true (by omega);obtain⟨k,hk⟩:∃k,k=c-48:=⟨_,rfl⟩;have k1:IntKind.u8.wrap ((((t[i]'hlt).toNat:Nat):Int)-48)=(k:Int):=by
    rw[show(((t[i]'hlt).toNat:Nat):Int)-48=(k:Int) by omega];exact IntWalk.u8_in _ (by omega)
   have k2:IntKind.i64.wrap (k:Int)=(k:Int):=IntWalk.i64_in _ (by omega);have k3:IntKind.i64.wrap (10*(m:Int))=10*(m:Int):=IntWalk.i64_in _ (by omega);have k4:IntKind.i64.wrap (10*(m:Int)+(k:Int))=10*(m:Int)+(k:Int):=IntWalk.i64_in _ (by omega);rw[←hk] at HM;have HID:=Hh hid;clear hgt hb hdg hdg2 hid hk hm;go_wp2_with fail;go_roundw
   case rel=>exact⟨i+1,by go_num,by rw[HM.out];go_num,HID.out,trivial⟩
   case measure=>have:=HID.out;simp[intOf];omega
  ·have e:i=d.length:=by omega
   have hb:s.data.toList.head?=some (t[i]'hlt):=by
    rw[←hgt,HTD.out,List.getElem?_append_right (by omega),e,Nat.sub_self,List.head?_eq_getElem?]
   have hno:=HS.out.2.2 _ hb;unfold Digs.isd at hno;have hno2:=of_decide_eq_false hno;rw[←hc] at hno2;have hmn:d=[]∧n=1∨d≠[]∧m=n:=by
    have h1:=HD.out;unfold tokD at h1;by_cases h2:n=1
    ·rw[if_pos h2] at h1;exact .inl ⟨h1,h2⟩
    ·rw[if_neg h2] at h1;refine .inr ⟨fun h3=>Digs.digs_ne n (h1.symm.trans h3),?_⟩;rw[hm,e,List.take_length,h1,Digs.num_digs]
   have HE:=Hh e;have i4:(0:Int)≤(i:Int)∧(i:Int)≤(t.size:Int):=by omega
   have i5:(i:Int)≤(t.size:Int):=by omega
   have hcc:(decide ((((t[i]'hlt).toNat:Nat):Int)≥48)=false)∨(decide ((((t[i]'hlt).toNat:Nat):Int)≥48)=true∧decide ((((t[i]'hlt).toNat:Nat):Int)≤57)=false):=by
    by_cases h4:c<48
    ·exact .inl (decide_eq_false (by omega))
    ·exact .inr ⟨decide_eq_true (by omega),decide_eq_false (by omega)⟩
   clear hgt hb hno hno2 hid;rcases hmn with⟨h1,rfl⟩|⟨h1,h2⟩
   ·have hi0:i=0:=by rw[e,h1];rfl
    have HT:=Hh (show t=s from zjV (by rw[HTD.out,h1];rfl));subst hi0;clear e h1 hm;rcases hcc with t1|⟨t1,t2⟩
    all_goals (
     go_wp2_with fail;go_ret2;refine⟨?_,Below.refl _ _⟩;show Ending.returned (.tuple #[.int .i64 1,.string t])=_;rw[HT.out];rfl)
   ·have hi0:0<i:=by
     have:=List.length_pos_iff.2 h1;omega
    have t6:((i:Int)==0)=false:=beq_eq_false_iff_ne.2 (by omega);have HX:=Hh (show t.extract i t.size=s from zjV (by
     have e2:(t.extract i t.size).data.toList=t.data.toList.drop i:=by
      simp[ByteArray.data_extract];rw[List.take_of_length_le (by simp)]
     rw[e2,HTD.out,HE.out,List.drop_left]))
    subst h2;clear e h1 hm hi0;rcases hcc with t1|⟨t1,t2⟩
    all_goals (
     go_wp2_with fail;go_quiet (fail);go_wp2_with fail;go_ret2;refine⟨?_,zaa (Below.refl _ _) _⟩;show Ending.returned (.tuple #[.int .i64 (m:Int),.string (t.extract i (d.length+s.size))])=_;rw[←HZ.out,HX.out])
def gapT (b:Bool)(L:List (List UInt8)):Nat→Nat→Nat→List (List UInt8)
 | 0,_,_=>[]
 | f+1,k,j=>if zae (tat L k)=[] then gapT b L f (k+1) j else tokR (k-j) [36] :: (zbq b (zae (tat L k))++gapT b L f (k+1) k)
theorem zka {b:Bool}{L:List (List UInt8)}:∀(f k j:Nat),(tokK b L k).2=some j→(tokK b L (k+f)).1=(tokK b L k).1++gapT b L f k j
 | 0,k,j,_=>(List.append_nil _).symm
 | f+1,k,j,h=>by
  have e:gapT b L (f+1) k j=if zae (tat L k)=[] then gapT b L f (k+1) j else tokR (k-j) [36] :: (zbq b (zae (tat L k))++gapT b L f (k+1) k):=rfl
  rw[show k+(f+1)=k+1+f by omega,e];by_cases h0:zae (tat L k)=[]
  ·rw[if_pos h0,zka f (k+1) j (by rw[zbY h0];exact h),zbY h0]
  ·rw[if_neg h0,zka f (k+1) k (by rw[zdb h0 h]),zdb h0 h];show(tokK b L k).1++[tokR (k-j) [36]]++zbq b (zae (tat L k))++gapT b L f (k+1) k=_;rw[List.append_assoc,List.append_assoc];rfl
theorem zen {b:Bool}{L:List (List UInt8)}:∀{k:Nat},(∀j,j<k→zae (tat L j)=[])→tokK b L k=([],none)
 | 0,_=>rfl
 | k+1,h=>by
  rw[zbY (h k (by omega))];exact zen fun j hj=>h j (by omega)
theorem zkb {L:List (List UInt8)}(h:∀j,j<L.length→zae (tat L j)=[]):zat L=[[33]]:=by
 unfold zat;rw[zen h];rfl
theorem zkc {L:List (List UInt8)}{y f:Nat}(h:∀j,j<y→zae (tat L j)=[])(hy:zae (tat L y)≠[])(hf:y+1+f=L.length) :
  zat L=zbq (twoR L) (zae (tat L y))++gapT (twoR L) L f (y+1) y++[[33]]:=by
 have e1:tokK (twoR L) L (y+1)=(zbq (twoR L) (zae (tat L y)),some y):=by
  rw[zdq hy (by rw[zen h]),zen h];rfl
 unfold zat;rw[←hf,zka f (y+1) y (by rw[e1]),e1]
theorem zgt {b:Bool}{L:List (List UInt8)}:∀(f k j:Nat),(gapT b L f k j=[]∧∀i,k≤i→i<k+f→zae (tat L i)=[]) ∨
  ∃y g,k≤y∧y+1+g=k+f∧(∀i,k≤i→i<y→zae (tat L i)=[])∧zae (tat L y)≠[]∧gapT b L f k j=tokR (y-j) [36] :: (zbq b (zae (tat L y))++gapT b L g (y+1) y)
 | 0,k,j=>.inl ⟨rfl,fun i h1 h2=>by omega⟩
 | f+1,k,j=>by
  have e:gapT b L (f+1) k j=if zae (tat L k)=[] then gapT b L f (k+1) j else tokR (k-j) [36] :: (zbq b (zae (tat L k))++gapT b L f (k+1) k):=rfl
  by_cases h0:zae (tat L k)=[]
  ·rw[e,if_pos h0];rcases zgt (b:=b) (L:=L) f (k+1) j with⟨h1,h2⟩|⟨y,g,h1,h2,h3,h4,h5⟩
   ·refine .inl ⟨h1,fun i hi1 hi2=>?_⟩;rcases Nat.eq_or_lt_of_le hi1 with rfl|h
    ·exact h0
    ·exact h2 i (by omega) (by omega)
   ·refine .inr ⟨y,g,by omega,by omega,fun i hi1 hi2=>?_,h4,h5⟩;rcases Nat.eq_or_lt_of_le hi1 with rfl|h
    ·exact h0
    ·exact h3 i (by omega) (by omega)
  ·rw[e,if_neg h0];exact .inr ⟨k,f,Nat.le_refl _,by omega,fun i h1 h2=>by omega,h0,rfl⟩
def nzR (r:List UInt8):Nat:=r.countP fun x=>decide (x≠0)
def nzK (L:List (List UInt8)):Nat→Nat
 | 0=>0
 | k+1=>nzK L k+nzR (tat L k)
theorem zlF {r:List UInt8}{x:Nat}{v:UInt8}(h:r[x]?=some v):nzR (r.take (x+1))=nzR (r.take x)+(if v=0 then 0 else 1):=by
 unfold nzR;rw[List.take_add_one,h,List.countP_append];by_cases h0:v=0
 ·subst h0;simp
 ·simp[h0]
theorem zrO (r:List UInt8):nzR r≤r.length:=List.countP_le_length
theorem zkd:∀r:List UInt8,nzR (zae r)=nzR r
 | []=>rfl
 | y :: r=>by
  have e:zae (y :: r)=if y=0∧zae r=[] then [] else y :: zae r:=rfl
  have ih:=zkd r;unfold nzR at ih ⊢;by_cases hc:y=0∧zae r=[]
  ·rw[e,if_pos hc,List.countP_cons,←ih,hc.2,hc.1];rfl
  ·rw[e,if_neg hc,List.countP_cons,List.countP_cons,ih]
theorem zrP {r:List UInt8}{x:Nat}(h:x=(zae r).length):nzR (r.take x)=nzR r:=by
 rw[h,←zeN,zkd]
theorem ztn {r:List UInt8}(h:zae r=[]):nzR r=0:=by
 rw[←zkd,h];rfl
theorem zeo {L:List (List UInt8)}{k:Nat}:∀{y:Nat},k≤y→(∀i,k≤i→i<y→zae (tat L i)=[])→nzK L y=nzK L k
 | 0,h,_=>by rw[show k=0 by omega]
 | y+1,h,hz=>by
  rcases Nat.eq_or_lt_of_le h with rfl|h1
  ·rfl
  ·show nzK L y+nzR (tat L y)=_;rw[ztn (hz y (by omega) (by omega)),zeo (by omega:k≤y) fun i h2 h3=>hz i h2 (by omega)];rfl
theorem zrQ {L:List (List UInt8)}{m:Nat}(h:∀r∈L,r.length≤m):∀{k:Nat},k≤L.length→nzK L k≤k*m
 | 0,_=>Nat.zero_le _
 | k+1,hk=>by
  have h1:=zrQ h (by omega:k≤L.length);have h2:=zrO (tat L k);have h3:(tat L k).length≤m:=by
   unfold tat;rw[List.getElem?_eq_getElem (by omega)];exact h _ (List.getElem_mem _)
  rw[Nat.add_mul,Nat.one_mul];show nzK L k+nzR (tat L k)≤_;omega
theorem zpv (b:Bool){n:Nat}(hn:n≤255):SgnS (sgnR b n)∧sgnR b n≠[36]:=by
 have key:∀b n,n<256→(sgnR b n≠[]∧(sgnR b n).length≤2∧(∀c,(sgnR b n).head?=some c→Digs.isd c=false))∧sgnR b n≠[36]:=by
  intro b n h;have k2:∀b:Bool,∀i:Fin 256,(decide (sgnR b i.1≠[])&&decide ((sgnR b i.1).length≤2)&&(match (sgnR b i.1).head? with|some c => !Digs.isd c|none=>true)&&decide (sgnR b i.1≠[36]))=true:=by decide +kernel
  have k3:=k2 b ⟨n,h⟩;rw[Bool.and_eq_true,Bool.and_eq_true,Bool.and_eq_true] at k3;obtain⟨⟨⟨a1,a2⟩,a3⟩,a4⟩:=k3;refine⟨⟨of_decide_eq_true a1,of_decide_eq_true a2,fun c hc=>?_⟩,of_decide_eq_true a4⟩;dsimp only at hc a3;rw[hc] at a3;simpa using a3
 exact key b n (by omega)
theorem zke:SgnS [36]:=⟨by decide,by decide,fun c hc=>by cases hc;rfl⟩
theorem zic {b:Bool}{r:List UInt8}(h:zbq b r=[]):r=[]:=by
 by_cases h0:r=[]
 ·exact h0
 ·rw[zcv b h0] at h;cases h
theorem zpw {L:List (List UInt8)}{k:Nat}(X Y:Int)(hk:k<L.length):∀wide,wide≤(tat L k).length→(rowC (picS L) X Y k wide).length=nzR ((tat L k).take wide)
 | 0,_=>rfl
 | wide+1,h=>by
  have e1:=zoT hk (show wide<(tat L k).length by omega);have e2:=zlF (List.getElem?_eq_getElem (show wide<(tat L k).length by omega));rw[zed,List.length_append,zpw X Y hk wide (by omega),e2,e1];congr 1;by_cases h0:(tat L k)[wide]=0
  ·rw[if_pos h0,if_pos (by rw[h0];rfl)];rfl
  ·have h1:¬ (((tat L k)[wide].toNat:Nat):Int)=0:=fun e=>h0 (UInt8.toNat_inj.1 (show(tat L k)[wide].toNat=0 by omega));rw[if_neg h0,if_neg h1];rfl
theorem zkf {L:List (List UInt8)}{wide:Nat}(X Y:Int)(h:∀i,i<L.length→(tat L i).length=wide):∀high,high≤L.length→(picL (picS L) X Y wide high).length=nzK L high
 | 0,_=>rfl
 | high+1,hh=>by
  have h1:=h high (by omega);rw[zgi,List.length_append,zkf X Y h high (by omega),zpw X Y (by omega) wide (by omega),←h1,List.take_length];rfl
theorem ziX {L:List (List UInt8)}(h:zcX L=true):∀i,i<L.length→(tat L i).length=zbV L:=fun i hi=>by
 unfold zcX at h;rw[Bool.and_eq_true] at h;have h1:=List.all_eq_true.1 h.2 _ (ztk hi);exact of_decide_eq_true h1
structure Pn (w W:World)(u:Gr)(A:Option Addr)(c:Nat):Prop where
 g:GrB w u W
 t:Ts W A c (zat u.L)
theorem Pn.next {w W W1:World}{u:Gr}{A:Option Addr}{c:Nat}(h:Pn w W u A c)(k:Below W.heap.size W W1):Pn w W1 u A c:=⟨h.g.next k,h.t.below k⟩
theorem zmF (L:List (List UInt8)):∃m,(zat L).length=m+1∧tat (zat L) m=[33]:=by
 refine⟨(tokK (twoR L) L L.length).1.length,?_,?_⟩
 ·unfold zat;rw[List.length_append];rfl
 ·unfold zat tat;rw[List.getElem?_append_right (Nat.le_refl _),Nat.sub_self];rfl
theorem zpx {l:List (List UInt8)}{i:Nat}{a:List UInt8}{r:List (List UInt8)}(h:l.drop i=a :: r):i<l.length∧tat l i=a∧l.drop (i+1)=r:=by
 have h1:i<l.length:=by
  rcases Nat.lt_or_ge i l.length with h1|h1
  ·exact h1
  ·rw[List.drop_eq_nil_of_le h1] at h;cases h
 rw[List.drop_eq_getElem_cons h1] at h;obtain⟨e1,e2⟩:=List.cons.inj h;refine⟨h1,?_,e2⟩;unfold tat;rw[List.getElem?_eq_getElem h1];exact e1
theorem zkg {r:List UInt8}{x k:Nat}(hx:x≤(zae r).length)(hk:k<runN ((zae r).drop x)):x+k<r.length∧r[x+k]?=some (((zae r).drop x).headD 0)∧x+k<(zae r).length:=by
 have h1:=zdD ((zae r).drop x);rw[List.length_drop] at h1;have h2:=zda r;have h3:=zib hk;have h4:x+k<(zae r).length:=by omega
 refine⟨by omega,?_,h4⟩;have e1:(zae r)[x+k]?=r[x+k]?:=by
  rw[zeN r,List.getElem?_take,if_pos h4]
 rw[List.getElem?_drop,e1] at h3;rw[h3];cases hq:(zae r).drop x with
 | nil =>
  rw[hq] at hk;exact absurd hk (Nat.not_lt_zero _)
 | cons y l=>rfl
theorem ziY (u:Gr)(w:World)(h:u.U w)(hS:¬ zeh u 40) :
  Calls Tryz.prog 8 #[u.val] w fun e w'=>e=.returned (.bool true)∧Below w.heap.size w w':=by
 have hcap:=h.t.cap;have GB:=Hh (GrB.start h);obtain⟨c0,c1,c2,c3,c4⟩:=Gr.cells GB.out.k;have q0:True:=trivial;clear h;go_enter Tryz.func8,Tryz.ntmps8;go_wp2_with (first
  | (have _t:=q0;go_at_call 29;clear _t;go_loud (refine(zdF _).mono ?_;rintro e w1 ⟨rfl,b_⟩;have GB:=Hh (GB.out.next b_);clear c0 c1 c2 c3 c4 b_;obtain⟨c0,c1,c2,c3,c4⟩:=Gr.cells GB.out.k;have q1:=q0;clear q0))
  | (have _t:=q1;go_at_call 31;clear _t;go_loud (refine(zeK u 40 true ⟨fun e=>(by cases e),fun _=>hS⟩ _ GB.out.u (by omega)).mono ?_;rintro e w2 ⟨rfl,b_⟩;have GB:=Hh (GB.out.next b_);clear c0 c1 c2 c3 c4 b_;obtain⟨c0,c1,c2,c3,c4⟩:=Gr.cells GB.out.k;have q2:=q1;clear q1)))
 go_ret;exact⟨rfl,GB.out.b⟩
theorem zmG (u:Gr)(w:World)(h:u.U w)(hS:zeh u 40)(hR:zcY u=false) :
  Calls Tryz.prog 8 #[u.val] w fun e w'=>e=.returned (.bool true)∧Below w.heap.size w w':=by
 have hcap:=h.t.cap;have GB:=Hh (GrB.start h);obtain⟨c0,c1,c2,c3,c4⟩:=Gr.cells GB.out.k;have q0:True:=trivial;clear h;have HS:=Hh hS;have HR:=Hh hR;clear hS hR;go_enter Tryz.func8,Tryz.ntmps8;go_wp2_with (first
  | (have _t:=q0;go_at_call 29;clear _t;go_loud (refine(zdF _).mono ?_;rintro e w1 ⟨rfl,b_⟩;have GB:=Hh (GB.out.next b_);clear c0 c1 c2 c3 c4 b_;obtain⟨c0,c1,c2,c3,c4⟩:=Gr.cells GB.out.k;have q1:=q0;clear q0))
  | (have _t:=q1;go_at_call 31;clear _t;go_loud (refine(zeK u 40 false ⟨fun _=>HS.out,fun e=>(by cases e)⟩ _ GB.out.u (by omega)).mono ?_;rintro e w2 ⟨rfl,b_⟩;have GB:=Hh (GB.out.next b_);clear c0 c1 c2 c3 c4 b_;obtain⟨c0,c1,c2,c3,c4⟩:=Gr.cells GB.out.k;have q2:=q1;clear q1))
  | (have _t:=q2;go_at_call 32;clear _t;go_loud (refine(zgk u _ GB.out.u (by have:=HS.out.1;omega) (by have:=HS.out.2.1;omega) (by have:=HS.out.2.2.1;omega)).mono ?_;rintro e w3 ⟨rfl,b_⟩;rw[HR.out];have GB:=Hh (GB.out.next b_);clear c0 c1 c2 c3 c4 b_;obtain⟨c0,c1,c2,c3,c4⟩:=Gr.cells GB.out.k;have q3:=q2;clear q2)))
 go_ret;exact⟨rfl,GB.out.b⟩
theorem zkh (u:Gr)(w:World)(h:u.U w)(hS:zeh u 40)(hR:zcY u=true) :
  Calls Tryz.prog 8 #[u.val] w fun e w'=>e=.returned (.bool true)∧Below w.heap.size w w':=by
 have hcap:=h.t.cap;have GB:=Hh (GrB.start h);obtain⟨c0,c1,c2,c3,c4⟩:=Gr.cells GB.out.k;have q0:True:=trivial;clear h;have HX:=Hh (show zbs u.x.s u.x.xs=true∧zbs u.y.s u.y.xs=true by
  unfold zcY at hR;rw[Bool.and_eq_true,Bool.and_eq_true] at hR;exact⟨hR.1,hR.2.1⟩)
 have HS:=Hh hS;have HR:=Hh hR;obtain⟨m,hm,hml⟩:=zmF u.L;have HM:=Hh hm;have HML:=Hh hml;have hmf:m≤1640:=by
  have h1:=zek (b:=twoR u.L) (m:=40) HS.out.rows u.L.length (Nat.le_refl _);have h2:(zat u.L).length=(tokK (twoR u.L) u.L u.L.length).1.length+1:=by
   unfold zat;rw[List.length_append];rfl
  have h3:u.L.length*(40+1)≤40*41:=Nat.mul_le_mul HS.out.1 (by omega);omega
 have hl40:u.L.length≤40:=HS.out.1;clear hS hR hm hml;go_enter Tryz.func8,Tryz.ntmps8;go_upto_region 6 with(first
  | (have _t:=q0;go_at_call 29;clear _t;go_loud (refine(zdF _).mono ?_;rintro e w1 ⟨rfl,b_⟩;have GB:=Hh (GB.out.next b_);clear c0 c1 c2 c3 c4 b_;obtain⟨c0,c1,c2,c3,c4⟩:=Gr.cells GB.out.k;have q1:=q0;clear q0))
  | (have _t:=q1;go_at_call 31;clear _t;go_loud (refine(zeK u 40 false ⟨fun _=>HS.out,fun e=>(by cases e)⟩ _ GB.out.u (by omega)).mono ?_;rintro e w2 ⟨rfl,b_⟩;have GB:=Hh (GB.out.next b_);clear c0 c1 c2 c3 c4 b_;obtain⟨c0,c1,c2,c3,c4⟩:=Gr.cells GB.out.k;have q2:=q1;clear q1))
  | (have _t:=q2;go_at_call 32;clear _t;go_loud (refine(zgk u _ GB.out.u (by have:=HS.out.1;omega) (by have:=HS.out.2.1;omega) (by have:=HS.out.2.2.1;omega)).mono ?_;rintro e w3 ⟨rfl,b_⟩;rw[HR.out];have GB:=Hh (GB.out.next b_);clear c0 c1 c2 c3 c4 b_;obtain⟨c0,c1,c2,c3,c4⟩:=Gr.cells GB.out.k;have q3:=q2;clear q2))
  | (have _t:=q3;go_at_call 33;clear _t;go_loud (refine(zdE u _ GB.out.u.t (fun r hr=>by have:=HS.out.rows r hr;omega) (by have:=HS.out.1;omega)).mono ?_;rintro e w4 ⟨A5,k5,n5,rfl,l5,t5,b_⟩;have T5:=Hh t5;have L5:=Hh l5;have hc5:=t5.cap;rw[l5] at hc5;clear t5 l5;have GB:=Hh (GB.out.next b_);clear c0 c1 c2 c3 c4 b_;obtain⟨c0,c1,c2,c3,c4⟩:=Gr.cells GB.out.k;have q4:=q3;clear q3)))
 have PN:=Hh (show Pn w w4 u A5 k5 from⟨GB.out,T5.out⟩);have hn5:n5=m+1:=by rw[←L5.out];exact HM.out
 obtain⟨b5,o5,rfl,-,hcc⟩:=T5.out.at_ (by rw[L5.out];omega)
 have d0:=hcc m (by rw[L5.out];omega);rw[HML.out] at d0;have d1:w4.cell? ⟨b5,o5+m,none⟩=some (.string ⟨#[33]⟩):=d0;have k1:((n5:Int)==0)=false:=beq_eq_false_iff_ne.2 (by omega);have k2:IntKind.i64.wrap ((n5:Int)-1)=(m:Int):=by
  rw[show(n5:Int)-1=(m:Int) by omega];exact IntWalk.i64_in _ (by omega)
 have k3:(0:Int)≤(m:Int):=by omega
 have k4:(m:Int)<(n5:Int):=by omega
 have k5_:decide ((n5:Int)>4000)=false:=decide_eq_false (by omega);have HN5:=Hh hn5;clear hcc d0 GB T5 q4 hn5;go_upto_region 8 with fail
 clear d1 k1 k5_ k4;go_wp2_with fail;go_loopw [4] (fun z wr=>∃y:Nat,z=.int .i64 y∧y≤u.L.length∧(∀j,j<y→zae (tat u.L j)=[])∧Pn w wr u (some ⟨b5,o5,none⟩) k5) (fun z _=>u.L.length-(intOf z).toNat)
 case atStart=>exact⟨0,rfl,Nat.zero_le _,fun j hj=>by omega,PN.out⟩
 case round =>
  obtain⟨y,rfl,hy,hz,hp⟩:=hrel;have PN:=Hh hp;have HZ:=Hh hz;clear c0 c1 c2 c3 c4 hp hz;obtain⟨c0,c1,c2,c3,c4⟩:=Gr.cells PN.out.g.k;by_cases hlt:y<u.L.length
  ·obtain⟨b2,o2,hA,-,hcc⟩:=PN.out.g.u.t.at_ (by omega)
   have s0:=hcc y hlt;unfold strV at s0;obtain⟨r,hr⟩:∃r:ByteArray,r=⟨(tat u.L y).toArray⟩:=⟨_,rfl⟩;rw[←hr] at s0;have hrd:r.data.toList=tat u.L y:=by rw[hr]
   have hrz:r.size≤40:=by
    rw[←zav,hrd];exact HS.out.2.2.2 y hlt
   have HRD:=Hh hrd;rw[hA] at c4;have HA:=Hh hA;have i0:(0:Int)≤(y:Int):=by omega
   have i1:(y:Int)<(u.L.length:Int):=by omega
   have j1:decide ((y:Int)<(u.L.length:Int))=true:=decide_eq_true i1;have kw:IntKind.i64.wrap ((y:Int)+1)=(y:Int)+1:=IntWalk.i64_in _ (by omega);have HLT:=Hh hlt;clear hr hrd hA hcc hlt;by_cases ht:zae (tat u.L y)=[]
   ·have HT:=Hh ht;clear ht;go_wp2_with (go_at_call 34;go_loud (refine(zhc r _ (by omega) true (by rw[HRD.out];exact(decide_eq_true HT.out).symm)).mono ?_;rintro e w6 ⟨rfl,rfl⟩));go_roundw
    case rel =>
     refine⟨y+1,by go_num,HLT.out,fun j hj=>?_,PN.out⟩;rcases Nat.lt_or_ge j y with h1|h1
     ·exact HZ.out j h1
     ·rw[show j=y by omega];exact HT.out
    case measure=>have:=HLT.out;simp[intOf];omega
   ·have HT:=Hh ht;clear ht;go_upto_region 11 with(go_at_call 34;go_loud (refine(zhc r _ (by omega) false (by rw[HRD.out];exact(decide_eq_false HT.out).symm)).mono ?_;rintro e w6 ⟨rfl,rfl⟩))
    clear s0 j1 kw i0 i1;obtain⟨f,hf⟩:∃f,y+1+f=u.L.length:=⟨u.L.length-y-1,by have:=HLT.out;omega⟩;have HD:=Hh (zkc HZ.out HT.out hf);have HY0:=Hh (show nzK u.L y=0 from zeo (Nat.zero_le _) fun i _ h=>HZ.out i h);obtain⟨B,hB⟩:∃B,B=twoR u.L:=⟨_,rfl⟩;rw[←hB] at HD;have HB:=Hh hB;clear hB HZ HRD hrz;go_wp2_with fail;go_loopw [7,4,5,6,8,9,10,11] (fun z1 z2 z3 z4 z5 z6 z7 z8 wr=>∃(i y x p f:Nat) (v5 v6 v7 v8:Value),z1=.int .i64 i∧z2=.int .i64 y∧z3=.int .i64 x∧z4=.int .i64 p∧v5=z5∧v6=z6∧v7=z7∧v8=z8∧i≤m∧y+1+f=u.L.length∧x≤(zae (tat u.L y)).length∧(zat u.L).drop i=zbq B ((zae (tat u.L y)).drop x)++gapT B u.L f (y+1) y++[[33]]∧p=nzK u.L y+nzR ((tat u.L y).take x)∧Pn w wr u (some ⟨b5,o5,none⟩) k5) (fun z1 _ _ _ _ _ _ _ _=>m-(intOf z1).toNat)
    case atStart=>exact⟨0,y,0,0,f,_,_,_,_,rfl,rfl,rfl,rfl,rfl,rfl,rfl,rfl,Nat.zero_le _,hf,Nat.zero_le _,HD.out,by rw[HY0.out];rfl,PN.out⟩
    case round =>
     clear HD HY0 HLT HT PN hf hy c0 c1 c2 c3 c4;obtain⟨i,y,x,p,f,v5,v6,v7,v8,rfl,rfl,rfl,rfl,rfl,rfl,rfl,rfl,hi,hf,hx,hd,hpn,hp⟩:=hrel;have HPN:=Hh hpn;have HDR:=Hh hd;have PN:=Hh hp;have HX2:=Hh hx;have HF:=Hh hf;clear hd hp hpn;obtain⟨c0,c1,c2,c3,c4⟩:=Gr.cells PN.out.g.k;have hr40:(tat u.L y).length≤40:=HS.out.2.2.2 y (by omega);have ht40:=zda (tat u.L y);have kwi:IntKind.i64.wrap ((i:Int)+1)=(i:Int)+1:=IntWalk.i64_in _ (by omega);have hy40:y<40:=by omega
     have HY:=Hh (show y<u.L.length by omega);have hn5:=HN5.out;by_cases hlt:i<m
     ·have j1:decide ((i:Int)<(m:Int))=true:=decide_eq_true (by omega);have i0:(0:Int)≤(i:Int):=by omega
      have i1:(i:Int)<(n5:Int):=by omega
      have HLT:=Hh hlt;by_cases hxt:x<(zae (tat u.L y)).length
      ·have hr0:(zae (tat u.L y)).drop x≠[]:=fun e=>by
        have h1:=congrArg List.length e;rw[List.length_drop,List.length_nil] at h1;omega
       obtain⟨q,hq⟩:∃q,q=runN ((zae (tat u.L y)).drop x):=⟨_,rfl⟩;obtain⟨v,hv⟩:∃v,v=(((zae (tat u.L y)).drop x).headD 0).toNat:=⟨_,rfl⟩;have hd2:(zat u.L).drop i=tokR q (sgnR B v) :: (zbq B ((zae (tat u.L y)).drop (x+q))++gapT B u.L f (y+1) y++[[33]]):=by
        rw[HDR.out,zcv B hr0,←hq,←hv,List.drop_drop];rfl
       obtain⟨hi1,hat,hdn⟩:=zpx hd2;have HDN:=Hh hdn;have hq1:1≤q:=by rw[hq];exact zdp hr0
       have hq2:x+q≤(zae (tat u.L y)).length:=by
        have h1:=zdD ((zae (tat u.L y)).drop x);rw[List.length_drop,←hq] at h1;omega
       have hv9:v≤255:=by
        rw[hv];have:=UInt8.toNat_lt (((zae (tat u.L y)).drop x).headD 0);omega
       obtain⟨sg1,sg2⟩:=zpv B hv9;obtain⟨s,hs⟩:∃s:ByteArray,s=⟨(sgnR B v).toArray⟩:=⟨_,rfl⟩;have hsd:s.data.toList=sgnR B v:=by rw[hs]
       have d1:wr.cell? ⟨b5,o5+i,none⟩=some (.string ⟨(tokR q s.data.toList).toArray⟩):=by
        obtain⟨b',o',e',-,hcc⟩:=PN.out.t.at_ (by omega)
        cases e';have h1:=hcc i hi1;rw[hat] at h1;rw[hsd];exact h1
       have hne:(s.toList==[36])=false:=by
        rw[ByteArray.toList_eq,hsd];exact beq_eq_false_iff_ne.2 sg2
       have HSG:=Hh (show SgnS s.data.toList by rw[hsd];exact sg1);have HSD:=Hh hs;have HQ:=Hh hq;have HV:=Hh hv;have HV9:=Hh hv9;have kq1:decide ((q:Int)<1)=false:=decide_eq_false (by omega);have kq2:decide ((q:Int)>40)=false:=decide_eq_false (by omega);clear hn5 hd2 hat hdn hs hsd hq hv hv9 sg1 sg2 hr0 hlt hi1;go_wp2_with (go_at_call 35;go_loud (refine(zhd q s _ (by omega) HSG.out).mono ?_;rintro e w8 ⟨rfl,b_⟩;have PN:=Hh (PN.out.next b_);clear c0 c1 c2 c3 c4 d1 b_;obtain⟨c0,c1,c2,c3,c4⟩:=Gr.cells PN.out.g.k));go_loopw [10,5,6,11] (fun z1 z2 z3 z4 wr=>∃(k:Nat) (v4:Value),z1=.int .i64 k∧z2=.int .i64 ((x+k:Nat):Int)∧z3=.int .i64 ((nzK u.L y+nzR ((tat u.L y).take (x+k)):Nat):Int)∧v4=z4∧k≤q∧Pn w wr u (some ⟨b5,o5,none⟩) k5) (fun z1 _ _ _ _=>q-(intOf z1).toNat)
       case atStart=>exact⟨0,_,rfl,rfl,by rw[HPN.out];rfl,rfl,Nat.zero_le _,PN.out⟩
       case round =>
        obtain⟨k,v4,rfl,rfl,rfl,rfl,hk,hp⟩:=hrel;have PN:=Hh hp;clear c0 c1 c2 c3 c4 hp;obtain⟨c0,c1,c2,c3,c4⟩:=Gr.cells PN.out.g.k;obtain⟨X,hX⟩:∃X,X=x+k:=⟨_,rfl⟩;obtain⟨P,hP⟩:∃P,P=nzK u.L y+nzR ((tat u.L y).take (x+k)):=⟨_,rfl⟩;rw[←hP,←hX];have HXX:=Hh hX;have HPP:=Hh hP;by_cases hkq:k<q
        ·obtain⟨h1,h2,-⟩:=zkg HX2.out (by rw[←HQ.out];exact hkq);have hst:=zlF h2;obtain⟨b2,o2,hA,-,hcc⟩:=PN.out.g.u.t.at_ (by have:=HY.out;omega)
         have s0:=hcc y HY.out;unfold strV at s0;obtain⟨r,hr⟩:∃r:ByteArray,r=⟨(tat u.L y).toArray⟩:=⟨_,rfl⟩;rw[←hr] at s0;have hrd:r.data.toList=tat u.L y:=by rw[hr]
         have hXr:X<r.size:=by rw[hX,←zav,hrd];exact h1
         have hrz:r.size≤40:=by rw[←zav,hrd];exact hr40
         have hb:(r[X]'hXr).toNat=v:=by
          have h3:=zcG hXr;have h4:r.data.toList[X]?=some (((zae (tat u.L y)).drop x).headD 0):=by
           rw[hrd,hX];exact h2
          rw[HV.out,Option.some.inj (h3.symm.trans h4)]
         rw[hA] at c4;have j3:decide ((k:Int)<(q:Int))=true:=decide_eq_true (by omega);have j4:decide ((y:Int)≥(u.L.length:Int))=false:=decide_eq_false (by have:=HY.out;omega);have j5:decide ((X:Int)≥(r.size:Int))=false:=decide_eq_false (by omega);have y0:(0:Int)≤(y:Int):=by omega
         have y1:(y:Int)<(u.L.length:Int):=by have:=HY.out;omega
         have x0:(0:Int)≤(X:Int):=by omega
         have x1:(X:Int)<(r.size:Int):=by omega
         have hP9:P≤2000:=by
          have h3:=zrQ (m:=40) HS.out.rows (show y≤u.L.length by have:=HY.out;omega);have h4:=zrO ((tat u.L y).take (x+k));rw[List.length_take] at h4;have h5:y*40≤40*40:=Nat.mul_le_mul (by omega) (Nat.le_refl _);omega
         have w1_:IntKind.i64.wrap ((k:Int)+1)=(k:Int)+1:=IntWalk.i64_in _ (by omega);have w2_:IntKind.i64.wrap ((X:Int)+1)=(X:Int)+1:=IntWalk.i64_in _ (by omega);have w3_:IntKind.i64.wrap ((P:Int)+1)=(P:Int)+1:=IntWalk.i64_in _ (by omega);obtain⟨s1,hs1⟩:∃s1:ByteArray,s1=⟨(sgnR true v).toArray⟩:=⟨_,rfl⟩;have PS1:=Hh (show ∀W:World,Calls Tryz.prog 36 #[.int .u8 (v:Int),.bool true] W fun e w'=>e=.returned (.string s1)∧Below W.heap.size W w' from fun W=>by rw[hs1];exact zcw true v W HV9.out);have HST:=Hh (show nzR ((tat u.L y).take (x+(k+1)))=nzR ((tat u.L y).take (x+k))+(if v=0 then 0 else 1) by
          rw[←Nat.add_assoc,hst,HV.out];congr 1;by_cases h5:((zae (tat u.L y)).drop x).headD 0=0
          ·rw[if_pos h5,if_pos (by rw[h5];rfl)]
          ·have h6:¬ (((zae (tat u.L y)).drop x).headD 0).toNat=0:=fun e=>h5 (UInt8.toNat_inj.1 (show(((zae (tat u.L y)).drop x).headD 0).toNat=(0:UInt8).toNat by rw[e];rfl));rw[if_neg h5,if_neg h6])
         have HKQ:=Hh hkq;have hBE:s1=s∨((s.toList==s1.toList)=false∧s=⟨(sgnR false v).toArray⟩):=by
          cases hBb:B with
          | true=>exact .inl (by rw[HSD.out,hs1,hBb])
          | false =>
           by_cases h5:s1=s
           ·exact .inl h5
           ·refine .inr ⟨beq_eq_false_iff_ne.2 fun h6=>h5 ?_,by rw[HSD.out,hBb]⟩;rw[hs1,ByteArray.toList_eq,ByteArray.toList_eq,HSD.out] at h6;rw[hs1,HSD.out];exact congrArg (fun l:List UInt8=>(⟨l.toArray⟩:ByteArray)) h6.symm
         have hss:(s.toList==s.toList)=true:=beq_self_eq_true _;have hsn:(s.toList != s.toList)=false:=by unfold bne;rw[beq_self_eq_true];rfl
         have hv0:(nzK u.L y+nzR ((tat u.L y).take (x+(k+1)))=P∧((v:Int)!=0)=false)∨(nzK u.L y+nzR ((tat u.L y).take (x+(k+1)))=P+1∧((v:Int)!=0)=true):=by
          by_cases h5:v=0
          ·exact .inl ⟨by rw[HST.out,hP,if_pos h5];rfl,by rw[h5];rfl⟩
          ·exact .inr ⟨by rw[HST.out,hP,if_neg h5];rfl,by rw[bne_iff_ne];omega⟩
         have HXN:=Hh (show x+(k+1)=X+1 by omega);clear hX hP h1 h2 hst hA hcc hr hrd hs1 hkq hk;rcases hv0 with⟨hv0,vv⟩|⟨hv0,vv⟩
         all_goals (
          have HV0:=Hh hv0;clear hv0;rcases hBE with rfl|⟨hE,hsf⟩
          ·go_upto_region 26 with fail
           clear i0 i1 j1 j3 j4 j5 y0 y1 x0 x1 hP9 s0 kq1 kq2 kwi hq1 hq2 hi hne;go_wp2_with (go_at_call 36;go_loud (refine(PS1.out _).mono ?_;rintro e w9 ⟨rfl,b_⟩;have PN:=Hh (PN.out.next b_);clear c0 c1 c2 c3 c4 b_;obtain⟨c0,c1,c2,c3,c4⟩:=Gr.cells PN.out.g.k));go_roundw
           case rel=>exact⟨k+1,_,by go_num,by rw[HXN.out];rfl,by first|(rw[HV0.out];done)|(rw[HV0.out];rfl),rfl,HKQ.out,PN.out⟩
           case measure=>have:=HKQ.out;simp[intOf];omega
          ·have PS2:=Hh (show ∀W:World,Calls Tryz.prog 36 #[.int .u8 (v:Int),.bool false] W fun e w'=>e=.returned (.string s)∧Below W.heap.size W w' from fun W=>by rw[hsf];exact zcw false v W HV9.out);have hEn:(s.toList != s1.toList)=true:=by unfold bne;rw[hE];rfl
           clear hsf;have r0:True:=trivial;go_upto_region 26 with fail
           clear i0 i1 j1 j3 j4 j5 y0 y1 x0 x1 hP9 s0 kq1 kq2 kwi hq1 hq2 hi hne;go_wp2_with (first
            | (have _t:=r0;go_at_call 36;clear _t;go_loud (refine(PS1.out _).mono ?_;rintro e w9 ⟨rfl,b_⟩;have PN:=Hh (PN.out.next b_);clear c0 c1 c2 c3 c4 b_;obtain⟨c0,c1,c2,c3,c4⟩:=Gr.cells PN.out.g.k;have r1:=r0;clear r0))
            | (have _t:=r1;go_at_call 36;clear _t;go_loud (refine(PS2.out _).mono ?_;rintro e w10 ⟨rfl,b_⟩;have PN:=Hh (PN.out.next b_);clear c0 c1 c2 c3 c4 b_;obtain⟨c0,c1,c2,c3,c4⟩:=Gr.cells PN.out.g.k;have r2:=r1;clear r1)))
           go_roundw
           case rel=>exact⟨k+1,_,by go_num,by rw[HXN.out];rfl,by first|(rw[HV0.out];done)|(rw[HV0.out];rfl),rfl,HKQ.out,PN.out⟩
           case measure=>have:=HKQ.out;simp[intOf];omega)
        ·have e:k=q:=by omega
         have HE:=Hh e;have t9:decide ((k:Int)<(q:Int))=false:=decide_eq_false (by omega);have t10:decide (k<q)=false:=decide_eq_false hkq;have t11:(k<q)=False:=eq_false hkq;clear hkq e hX hP hk;go_wp2_with fail;go_roundw
         case rel=>exact⟨i+1,y,X,P,f,_,_,_,_,by go_num,rfl,rfl,rfl,rfl,rfl,rfl,rfl,HLT.out,HF.out,by rw[HXX.out,HE.out];exact hq2,by rw[HXX.out,HE.out];exact HDN.out,by rw[HXX.out];exact HPP.out,PN.out⟩
         case measure=>have:=HLT.out;simp[intOf];omega
      ·have hxe:x=(zae (tat u.L y)).length:=by omega
       have hd3:(zat u.L).drop i=gapT B u.L f (y+1) y++[[33]]:=by
        rw[HDR.out,List.drop_eq_nil_of_le (by omega)];rfl
       rcases zgt (b:=B) (L:=u.L) f (y+1) y with⟨g1,-⟩|⟨y',g,h1,h2,h3,h4,h5⟩
       ·exfalso;have h6:=congrArg List.length hd3;rw[g1,List.length_drop,HM.out] at h6;have h7:([]++[[33]]:List (List UInt8)).length=1:=rfl;omega
       ·rw[h5] at hd3;obtain⟨hi1,hat,hdn⟩:=zpx (show(zat u.L).drop i=tokR (y'-y) [36] :: (zbq B (zae (tat u.L y'))++gapT B u.L g (y'+1) y'++[[33]]) from hd3);have HDN:=Hh hdn;obtain⟨q,hq⟩:∃q,q=y'-y:=⟨_,rfl⟩;rw[←hq] at hat;have hy':y'<u.L.length:=by omega
        have d1:wr.cell? ⟨b5,o5+i,none⟩=some (.string ⟨(tokR q (⟨#[36]⟩:ByteArray).data.toList).toArray⟩):=by
         obtain⟨b',o',e',-,hcc⟩:=PN.out.t.at_ (by omega)
         cases e';have h6:=hcc i hi1;rw[hat] at h6;exact h6
        have HNZ:=Hh (show p=nzK u.L y'+nzR ((tat u.L y').take 0) by
         have h6:=zeo (L:=u.L) h1 h3;have h7:nzK u.L (y+1)=nzK u.L y+nzR (tat u.L y):=rfl;rw[HPN.out,zrP hxe,h6,h7];rfl)
        have HG:=Hh (show y'+1+g=u.L.length by omega);have kq1:decide ((q:Int)<1)=false:=decide_eq_false (by omega);have kq2:decide ((q:Int)>40)=false:=decide_eq_false (by omega);have wy:IntKind.i64.wrap ((y:Int)+(q:Int))=(y':Int):=by
         rw[show(y:Int)+(q:Int)=(y':Int) by omega];exact IntWalk.i64_in _ (by omega)
        have hq99:q<100:=by omega
        clear hn5 hd3 hat hdn hi1 hlt hxt hxe h1 h2 h3 h4 h5 hq hy';go_wp2_with (go_at_call 35;go_loud (refine(zhd q ⟨#[36]⟩ _ hq99 zke).mono ?_;rintro e w8 ⟨rfl,b_⟩;have PN:=Hh (PN.out.next b_);clear c0 c1 c2 c3 c4 d1 b_;obtain⟨c0,c1,c2,c3,c4⟩:=Gr.cells PN.out.g.k));go_roundw
        case rel=>exact⟨i+1,y',0,p,g,_,_,_,_,by go_num,rfl,rfl,rfl,rfl,rfl,rfl,rfl,HLT.out,HG.out,Nat.zero_le _,HDN.out,HNZ.out,PN.out⟩
        case measure=>have:=HLT.out;simp[intOf];omega
     ·have e:i=m:=by omega
      have t9:decide ((i:Int)<(m:Int))=false:=decide_eq_false (by omega);have t10:decide (i<m)=false:=decide_eq_false hlt;have t11:(i<m)=False:=eq_false hlt;have hpl:p=nzK u.L u.L.length:=by
       have h6:=congrArg List.length HDR.out;rw[List.length_drop,HM.out,List.length_append,List.length_append] at h6;have h7:([[33]]:List (List UInt8)).length=1:=rfl;have h8:zbq B ((zae (tat u.L y)).drop x)=[]:=List.eq_nil_of_length_eq_zero (by omega);have h9:gapT B u.L f (y+1) y=[]:=List.eq_nil_of_length_eq_zero (by omega);have h10:=congrArg List.length (zic h8);rw[List.length_drop,List.length_nil] at h10;rcases zgt (b:=B) (L:=u.L) f (y+1) y with⟨-,g2⟩|⟨y',g,-,-,-,-,g5⟩
       ·have h11:=zeo (L:=u.L) (show y+1≤u.L.length by omega) (fun i h1 h2=>g2 i h1 (by omega));have h12:nzK u.L (y+1)=nzK u.L y+nzR (tat u.L y):=rfl;rw[HPN.out,zrP (show x=(zae (tat u.L y)).length by omega),h11,h12]
       ·rw[h9] at g5;cases g5
      have HPL:=Hh hpl;clear hn5 hlt e hpl;go_upto_region 31 with fail
      obtain⟨c0,c1,c2,c3,c4⟩:=Gr.cells PN.out.g.k;go_wp2_with (go_at_call 28;go_loud (refine(zgl u _ _ _ ⟨⟨PN.out.g.u.x,zbh HX.out.1,rfl⟩,⟨PN.out.g.u.y,zbh HX.out.2,rfl⟩,PN.out.g.u.t⟩ HS.out.2.1 HS.out.2.2.1 (zdo HR.out)).mono ?_;rintro e wz ⟨Az,cz,nz_,Nz,rfl,lz,tz,-,b_,ez,-⟩;have hnz:nz_=nzK u.L u.L.length:=(by rw[←lz,←List.length_map (f:=Cv.cl),ez];exact zkf _ _ (ziX (zdo HR.out)) _ (Nat.le_refl _));have hcz:=tz.cap;have PZ:=Hh (PN.out.next b_);clear c0 c1 c2 c3 c4 b_ tz lz ez;rw[←HPL.out] at hnz;subst hnz));go_ret;exact⟨rfl,PZ.out.g.b⟩

  ·have e:y=u.L.length:=by omega
   have t9:decide ((y:Int)<(u.L.length:Int))=false:=decide_eq_false (by omega);have t10:decide (y<u.L.length)=false:=decide_eq_false hlt;have t11:(y<u.L.length)=False:=eq_false hlt;have HNO:=Hh (show ∀j,j<u.L.length→zae (tat u.L j)=[] from fun j hj=>HZ.out j (by omega));have hm0:m=0:=by
    have h1:=HM.out;rw[zkb HNO.out] at h1;exact(Nat.succ.inj h1).symm
   have hnz0:nzK u.L u.L.length=0:=zeo (Nat.zero_le _) fun i _ h=>HNO.out i h;subst hm0;clear hlt e;go_wp2_with fail;go_loopw [7,4,5,6] (fun z1 z2 z3 z4 wr=>∃v2 v3:Value,z1=.int .i64 0∧v2=z2∧v3=z3∧z4=.int .i64 0∧Pn w wr u (some ⟨b5,o5,none⟩) k5) (fun _ _ _ _ _=>0)
   case atStart=>exact⟨_,_,rfl,rfl,rfl,rfl,PN.out⟩
   case round =>
    obtain⟨v2,v3,rfl,rfl,rfl,rfl,hp⟩:=hrel;have PN:=Hh hp;clear hp c0 c1 c2 c3 c4;go_upto_region 31 with fail
    obtain⟨c0,c1,c2,c3,c4⟩:=Gr.cells PN.out.g.k;go_wp2_with (go_at_call 28;go_loud (refine(zgl u _ _ _ ⟨⟨PN.out.g.u.x,zbh HX.out.1,rfl⟩,⟨PN.out.g.u.y,zbh HX.out.2,rfl⟩,PN.out.g.u.t⟩ HS.out.2.1 HS.out.2.2.1 (zdo HR.out)).mono ?_;rintro e wz ⟨Az,cz,nz_,Nz,rfl,lz,tz,-,b_,ez,-⟩;have hnz:nz_=nzK u.L u.L.length:=(by rw[←lz,←List.length_map (f:=Cv.cl),ez];exact zkf _ _ (ziX (zdo HR.out)) _ (Nat.le_refl _));have hcz:=tz.cap;have PZ:=Hh (PN.out.next b_);clear c0 c1 c2 c3 c4 b_ tz lz ez;rw[hnz0] at hnz;subst hnz));go_ret;exact⟨rfl,PZ.out.g.b⟩
theorem zmH (u:Gr)(w:World)(h:u.U w) :
  Calls Tryz.prog 8 #[u.val] w fun e w'=>e=.returned (.bool true)∧Below w.heap.size w w':=by
 by_cases hS:zeh u 40
 ·cases hR:zcY u with
  | true=>exact zkh u w h hS hR
  | false=>exact zmG u w h hS hR
 ·exact ziY u w h hS
end Go.Proofs.YtfjajpnfjjdnpaaGreatDoor
