import Derived.Test.YtfjajpnfjjdnpaaGreatDoorWBxK

set_option linter.unusedVariables false
set_option linter.unusedSimpArgs false
set_option maxRecDepth 100000
set_option maxHeartbeats 6400000
namespace Go.Proofs.YtfjajpnfjjdnpaaGreatDoor
open Go.RowKit Num Nds
theorem zfi (ax hf n on c d:Nat)(A B:Option Addr)(l:List Nd)(O:List Int)(w:World)(h:Ns w A c l)(hn:l.length=n)(hn9:n≤900000)(hO:ZsB w B d O)(hon:O.length=on)(hon9:on≤1000000)(hin:∀x∈O,1≤x∧x≤(n:Int))(hax:ax≤1)(hhf:hf≤1) :
  Calls Tryz.prog 241 #[.int .i64 (hf:Int),.int .i64 (ax:Int),.slice A n c,.slice B on d] w fun e w'=>∃v,e=.returned v∧OwnZ w' w.heap.size v (zeD (zbt l ax hf O on))∧Below w.heap.size w w':=by
 have hcap:=h.cap;rw[hn] at hcap;have zcap:=hO.cap;rw[hon] at zcap;obtain⟨i0,hi,hz0,hz1,hz2⟩:=info_parts Tryz.infoI;have HI:=Hh (And.intro hi (And.intro hz0 (And.intro hz1 hz2)));have HN:=Hh h;have HNL:=Hh hn;have HO:=Hh hO;have HON:=Hh hon;have HIN:=Hh hin;clear h hn hO hon hin hi hz0 hz1 hz2;go_enter Tryz.func241,Tryz.ntmps241;go_wp2_with fail;go_loopw [16,9] (fun i z wr=>∃(k:Nat) (v:Value),k≤on∧i=.int .i64 k∧v=z∧OwnZ wr w.heap.size v (zbt l ax hf O k)∧Below w.heap.size w wr) (fun i _ _=>on-(intOf i).toNat)
 case atStart=>exact⟨0,_,by omega,rfl,rfl,OwnZ.nil _ _,Below.refl _ _⟩
 case round =>
  obtain⟨k,v,hk,rfl,rfl,how,hbw⟩:=hrel;have HW:=Hh how;have HBW:=Hh hbw;clear how hbw;by_cases hlt:k<on
  ·obtain⟨b2,rfl,hb2,hc2⟩:=HO.out.2.2 (by rw[HON.out];omega);have ce:=(World.cell?_of_block (HBW.out.block b2 hb2)).trans (hc2 k (by rw[HON.out];exact hlt));obtain⟨p,hp,hpn⟩:∃p:Nat,O.getD k 0=(p:Int)+1∧p<n:=by
    have h1:O.getD k 0∈O:=by
     rw[List.getD_eq_getElem?_getD,List.getElem?_eq_getElem (by rw[HON.out];exact hlt)];exact List.getElem_mem _
    have h2:=HIN.out _ h1;exact⟨(O.getD k 0).toNat-1,by omega,by omega⟩
   have HS:=Hh (show zbt l ax hf O (k+1)=zbt l ax hf O k++zbr ax hf (at_ l p) 4 by
    rw[show zbt l ax hf O (k+1)=zbt l ax hf O k++zbr ax hf (at_ l ((O.getD k 0).toNat-1)) 4 from rfl,hp,show((p:Int)+1).toNat-1=p by omega])
   rw[hp] at ce;obtain⟨b,off,rfl,hb,hc⟩:=HN.out.at_ (by rw[HNL.out];omega)
   have hck:=(hc p (by rw[HNL.out];exact hpn)).below (HBW.out.block b hb);obtain⟨c0,c1,c2,c3,c4⟩:=hck;have hkl:=Hh (show(zbt l ax hf O k).length≤4*k from zgR k);generalize at_ l p=x at *
   obtain⟨M,hM⟩:∃M,M=zbt l ax hf O k:=⟨_,rfl⟩;rw[←hM] at HW HS hkl;clear hM;have i1:IntKind.i64.wrap ((p:Int)+1-1)=(p:Int):=by rw[show(p:Int)+1-1=(p:Int) by omega];exact IntWalk.i64_in _ (by omega)
   have i2:IntKind.i64.wrap (p:Int)=(p:Int):=IntWalk.i64_in _ (by omega);have i3:(0:Int)≤(p:Int):=by omega
   have i4:(p:Int)<(n:Int):=by omega
   have i5:(k:Int)<(on:Int):=by omega
   clear hc hc2;go_wp2_with fail;go_loopw [26,9] (fun i z wr=>∃(q:Nat) (v:Value),q≤4∧i=.int .i64 q∧v=z∧OwnZ wr w.heap.size v (M++zbr ax hf x q)∧Below w.heap.size w wr) (fun i _ _=>4-(intOf i).toNat)
   case atStart=>exact⟨0,_,by omega,rfl,rfl,by rw[show M++zbr ax hf x 0=M from List.append_nil _];exact HW.out,HBW.out⟩
   case round =>
    obtain⟨q,v2,hq,rfl,rfl,how2,hbw2⟩:=hrel;have HW2:=Hh how2;have HBW2:=Hh hbw2;clear how2 hbw2;by_cases hq4:q<4
    ·have hidx:=zen x q hq4;obtain⟨y,hy⟩:∃y,y=x.kid q:=⟨_,rfl⟩;rw[←hy] at hidx;have HY:=Hh hy;clear hy;have i6:(q:Int)<4:=by omega
     by_cases hy0:y=0
     ·have t1:(y != 0)=false:=by rw[hy0];rfl
      have HS2:=Hh (show zbr ax hf x (q+1)=zbr ax hf x q by
       rw[show zbr ax hf x (q+1)=zbr ax hf x q++(if x.kid q≠0∧bitK ax q=hf then [x.kid q] else []) from rfl,if_neg (fun e=>e.1 (by rw[←HY.out];exact hy0)),List.append_nil])
      have HY0:=Hh hy0;clear hy0;go_wp2_with fail;go_roundw
      case rel=>exact⟨q+1,_,by omega,by go_num,rfl,by rw[HS2.out];exact HW2.out,HBW2.out⟩
      case measure=>simp[intOf];omega
     ·have t1:(y != 0)=true:=bne_iff_ne.2 hy0;have HY0:=Hh hy0;clear hy0;have hbit:bits .and .i64 ((q:Int) / 2^ax) 1=((bitK ax q:Nat):Int):=by
       rcases(show q=0∨q=1∨q=2∨q=3 by omega) with rfl|rfl|rfl|rfl <;> rcases(show ax=0∨ax=1 by omega) with rfl|rfl <;> decide
      have ax1:(0:Int)≤(ax:Int):=by omega
      have ax2:(ax:Int)<64:=by omega
      by_cases hbk:bitK ax q=hf
      ·have t2:(bits .and .i64 ((q:Int) / 2^ax) 1==(hf:Int))=true:=by rw[hbit,beq_iff_eq];omega
       have HS2:=Hh (show zbr ax hf x (q+1)=zbr ax hf x q++[y] by
        rw[show zbr ax hf x (q+1)=zbr ax hf x q++(if x.kid q≠0∧bitK ax q=hf then [x.kid q] else []) from rfl,if_pos ⟨by rw[←HY.out];exact HY0.out,hbk⟩,←HY.out])
       have hfl:=zgQ (ax:=ax) (hf:=hf) (x:=x) q;have HFL:=Hh (show(M++zbr ax hf x q).length≤4*k+4 by rw[List.length_append];have:=hkl.out;omega);obtain⟨F,hF⟩:∃F,F=M++zbr ax hf x q:=⟨_,rfl⟩;obtain⟨fl,hfl2⟩:∃fl,fl=F.length:=⟨_,rfl⟩;rw[←hF] at HW2 HFL;have how:wr.ownsRow w.heap.size 3 1 v2 fl (F.map (Value.int .i64)):=by rw[hfl2];exact HW2.out
       have HW3:=Hh how;have HF:=Hh hF;have HFE:=Hh hfl2;have HBI:=Hh hbit;have HOB:=Hh (znE HW2.out);have hbr:w.heap.size≤wr.heap.size:=HBW2.out.size;have hfl3:fl≤4*k+4:=by rw[hfl2];exact HFL.out
       clear hbit hbk hfl hF hfl2 how;go_wp2_with (at_builtin;refine wpList_append_own_at _ rfl _ _ 99 rfl w.heap.size 3 i0 (.int .i64 0) 1 8 Tryz.underlying99 HI.out.1 HI.out.2.1 HI.out.2.2.1 HI.out.2.2.2 rfl (by decide) _ _ _ rfl (HW3.out.alloc _) ⟨_,0,none⟩ 1 1 [.int .i64 y] rfl rfl (cell_one_new _ _ _) (by simp[Value.oneCell']) (by simp only[maxLen];omega) (by omega) (by simp;omega) ?_;intro v3 w3 ho3 hg3 hn3 hk3;have HO3:=Hh ho3;have HG3:=Hh hg3;clear ho3 hg3 hn3 hk3);go_roundw
       case rel =>
        refine⟨q+1,_,by omega,by go_num,rfl,?_,(HBW2.out.alloc hbr _).grown HG3.out (by simp;omega) HOB.out⟩;rw[HS2.out,←List.append_assoc,←HF.out];unfold OwnZ;rw[List.map_append,List.length_append,←HFE.out];exact HO3.out
       case measure=>simp[intOf];omega
      ·have t2:(bits .and .i64 ((q:Int) / 2^ax) 1==(hf:Int))=false:=by rw[hbit,beq_eq_false_iff_ne];omega
       have HS2:=Hh (show zbr ax hf x (q+1)=zbr ax hf x q by
        rw[show zbr ax hf x (q+1)=zbr ax hf x q++(if x.kid q≠0∧bitK ax q=hf then [x.kid q] else []) from rfl,if_neg (fun e=>hbk e.2),List.append_nil])
       clear hbit hbk;go_wp2_with fail;go_roundw
       case rel=>exact⟨q+1,_,by omega,by go_num,rfl,by rw[HS2.out];exact HW2.out,HBW2.out⟩
       case measure=>simp[intOf];omega
    ·have hqe:q=4:=by omega
     have HQE:=Hh hqe;clear hqe;go_wp2_with fail;go_roundw
     case rel=>exact⟨k+1,_,by omega,by go_num,rfl,by rw[HS.out,←HQE.out];exact HW2.out,HBW2.out⟩
     case measure=>simp[intOf];omega
  ·have hke:k=on:=by omega
   have HKE:=Hh hke;have hkl:=Hh (show(zbt l ax hf O k).length≤4*k from zgR k);have hl9:(zbt l ax hf O k).length≤100000000:=by have:=hkl.out;omega
   have HL9:=Hh hl9;clear hke hl9;go_wp2_with (first
    | (go_at_call 281;go_loud (refine(zpQ w.heap.size _ _ _ HW.out HBW.out.size HL9.out).mono ?_;rintro e w1 ⟨rfl,o1,b1⟩;have O1:=Hh o1;have B1:=Hh (HBW.out.trans b1);clear o1 b1))
    | (go_at_call 282;go_loud (refine(zjT w.heap.size _ _ _ O1.out B1.out.size (by rw[List.length_mergeSort];exact HL9.out)).mono ?_;rintro e w2 ⟨v4,rfl,o2,b2⟩;have O2:=Hh o2;have B2:=Hh (B1.out.trans b2);clear o2 b2)))
   go_ret;exact⟨_,rfl,by rw[←HKE.out];exact O2.out,B2.out⟩
theorem zvB {xs:List Nat}{i b:Nat}(hd:Dig xs)(hi:i / 32<xs.length)(hb:b<2)(hz:2^(i+1)∣val xs) :
  val (xs.set (i / 32) (xs[i / 32]?.getD 0 ||| (b*2^(i%32))))=val xs+b*2^i:=by
 have hxl:=hd.getD (i / 32);have hq:2^(i%32)<2^32:=Nat.pow_lt_pow_right (by decide) (by omega);have hbb:b=0∨b=1:=by omega
 have hbq:b*2^(i%32)<2^32:=by rcases hbb with rfl|rfl <;> omega
 have hl:xs[i / 32]?.getD 0 ||| (b*2^(i%32))<4294967296:=Nat.or_lt_two_pow (n:=32) hxl hbq
 have hy:Dig (xs.set (i / 32) (xs[i / 32]?.getD 0 ||| (b*2^(i%32)))):=hd.set _ hl;have e1:val xs+b*2^i=val xs ||| (b*2^i):=by
  obtain⟨a,ha⟩:=hz;rw[ha];refine Nat.two_pow_add_eq_or_of_lt ?_ a;have:2^(i+1)=2*2^i:=by rw[Nat.pow_succ];omega
  have:0<2^i:=Nat.two_pow_pos i;rcases hbb with rfl|rfl <;> omega
 rw[e1];refine Nat.eq_of_testBit_eq fun j=>?_;rw[Nat.testBit_or,zdV hy,zdV hd];by_cases hw:j / 32=i / 32
 ·rw[hw,List.getElem?_set_self hi,Option.getD_some,Nat.testBit_or];congr 1;rcases hbb with rfl|rfl
  ·simp
  ·rw[Nat.one_mul,Nat.one_mul,Nat.testBit_two_pow,Nat.testBit_two_pow];refine decide_eq_decide.2 ?_;omega
 ·rw[List.getElem?_set_ne (fun e=>hw e.symm)];have:(b*2^i).testBit j=false:=by
   rcases hbb with rfl|rfl
   ·simp
   ·rw[Nat.one_mul,Nat.testBit_two_pow];refine decide_eq_false ?_;intro e;exact hw (by rw[e])
  rw[this,Bool.or_false]
theorem zwp {x p b:Nat}(hx:x<4294967296)(hp:p<32)(hb:b<2):(x ||| (b*2^p))<4294967296:=by
 have hq:2^p<2^32:=Nat.pow_lt_pow_right (by decide) hp;have hbq:b*2^p<2^32:=by
  have hbb:b=0∨b=1:=by omega
  rcases hbb with rfl|rfl <;> omega
 exact Nat.or_lt_two_pow (n:=32) hx hbq
def edZ (e n:Nat)(Z:Int):Int:=if e=0 then Z+p2 (n-1) else p2 n-1-(Z+p2 (n-1))
def accZ (e top lev:Nat)(V:Nat):Int:=if e=0 then (V:Int) else p2 top-p2 lev-V
theorem zpR {e top m V:Nat}(he:e≤1):accZ e top m (V+e*2^m)=accZ e top (m+1) V:=by
 have h1:=zau m;have h2:=zpF m;unfold accZ;rcases(show e=0∨e=1 by omega) with rfl|rfl
 ·simp
 ·rw[if_neg (by omega),if_neg (by omega)];simp only[Nat.one_mul];omega
theorem zso {e top m V:Nat}(he:e≤1):accZ e top m (V+(1-e)*2^m)=accZ e top (m+1) V+p2 m:=by
 have h1:=zau m;have h2:=zpF m;unfold accZ;rcases(show e=0∨e=1 by omega) with rfl|rfl
 ·rw[if_pos rfl,if_pos rfl];simp only[Nat.sub_zero,Nat.one_mul];omega
 ·rw[if_neg (by omega),if_neg (by omega)];simp only[Nat.sub_self,Nat.zero_mul,Nat.add_zero];omega
theorem znF (e top:Nat):accZ e top top 0=0:=by
 unfold accZ;split <;> simp
theorem zpS {e top V:Nat}:edZ e top ((V:Int)-p2 (top-1))=accZ e top 0 V:=by
 unfold edZ accZ;have:=zfd;split <;> omega
structure zcG (l:List Nd)(ax e top lev:Nat)(O:List Int)(V:Nat):Prop where
 des:DesJ ax e top lev (fun u=>u=den l l.length) (Nums l ((lev:Int)+1) O) (accZ e top lev V)
 num:∀x∈O,lev≠0→1≤x∧x≤(l.length:Int)∧(at_ l (x.toNat-1)).lv=(lev:Int)
 dv:2^lev∣V
 nd:O.Nodup
theorem zcG.start {l:List Nd}(hg:zaq l)(h0:0<l.length)(ax e:Nat){top:Nat}(ht:(top:Int)=(at_ l (l.length-1)).lv):zcG l ax e top top [(l.length:Int)] 0:=by
 have hlv:=zap (zad hg.1 (i:=l.length-1) (by omega));have hw:=zbv hg.1 (l.length-1) (by omega);rw[Nat.sub_add_cancel (by omega),←ht] at hw;have hne:=(hg.2 (l.length-1) (by omega)).1;rw[Nat.sub_add_cancel (by omega)] at hne;refine⟨?_,fun x hx _=>?_,Nat.dvd_zero _,by simp⟩
 ·rw[znF];refine(DesJ.start (root:=fun u=>u=den l l.length) (fun t ht=>by have ht':t=den l l.length:=ht;rw[ht'];exact hw) ⟨_,rfl,hne⟩).of fun t=>?_;have e1:kidT (dens l) ((top:Int)+1) (l.length:Int)=den l l.length:=by
   rw[zaB (by omega)];rfl
  constructor
  ·intro ht;have ht':t=den l l.length:=ht;exact⟨_,List.mem_singleton.2 rfl,by rw[ht',e1]⟩
  ·rintro⟨k,hk,rfl⟩;rw[List.mem_singleton.1 hk];exact e1
 ·rw[List.mem_singleton.1 hx];exact⟨by omega,by omega,by rw[Int.toNat_natCast];exact ht.symm⟩
theorem zcG.kids {l:List Nd}(hg:zaq l){ax e f top m:Nat}{O:List Int}{V:Nat}(h:zcG l ax e top (m+1) O V)(u:Tr) :
  kidS ax f (Nums l ((m:Int)+1+1) O) u↔Nums l ((m:Int)+1) (zeD (zbt l ax f O O.length)) u:=by
 refine zsn hg (fun n hn=>?_) (fun k=>?_) u
 ·have:=h.num n hn (by omega);exact⟨this.1,this.2.1,this.2.2⟩
 ·rw[zjS,zjR]
theorem zcG.num' {l:List Nd}(hg:zaq l){ax e f top m:Nat}{O:List Int}{V:Nat}(h:zcG l ax e top (m+1) O V) :
  ∀x∈zeD (zbt l ax f O O.length),m≠0→1≤x∧x≤(l.length:Int)∧(at_ l (x.toNat-1)).lv=(m:Int):=by
 intro x hx hm;rw[zjS,zjR] at hx;obtain⟨n,hn,i,hi,-,hk,h0⟩:=hx;obtain⟨h1,h2,h3⟩:=h.num n hn (by omega);have hlt:n.toNat-1<l.length:=by omega
 have hv:(at_ l (n.toNat-1)).lv≠1:=by rw[h3];omega
 rcases zaA hv (zaj (zad hg.1 hlt) hi) with h4|⟨p,h4,h5,h6⟩
 ·exact absurd (hk.symm.trans h4) h0
 ·rw[←hk,h4];refine⟨by omega,by omega,?_⟩;rw[show(((p:Int)+1).toNat)-1=p by omega];rw[h3] at h6;omega
theorem zcG.near {l:List Nd}(hg:zaq l){ax e top m:Nat}{O:List Int}{V:Nat}(h:zcG l ax e top (m+1) O V)(he:e≤1)(hne:zeD (zbt l ax e O O.length)≠[]) :
  zcG l ax e top m (zeD (zbt l ax e O O.length)) (V+e*2^m):=by
 refine⟨?_,h.num' hg,?_,zgS _⟩
 ·rw[zpR he];obtain⟨k,hk⟩:=List.exists_mem_of_ne_nil _ hne;refine(h.des.near he ⟨_,(h.kids hg _).2 ⟨k,hk,rfl⟩⟩).of fun t=>h.kids hg t
 ·exact Nat.dvd_add (Nat.dvd_trans (Nat.pow_dvd_pow 2 (Nat.le_succ m)) h.dv) (Nat.dvd_mul_left _ _)
theorem zcG.far {l:List Nd}(hg:zaq l){ax e top m:Nat}{O:List Int}{V:Nat}(h:zcG l ax e top (m+1) O V)(he:e≤1)(hne:zeD (zbt l ax e O O.length)=[]) :
  zcG l ax e top m (zeD (zbt l ax (1-e) O O.length)) (V+(1-e)*2^m):=by
 refine⟨?_,h.num' hg,?_,zgS _⟩
 ·rw[zso he];refine(h.des.far he rfl fun u hu=>?_).of fun t=>h.kids hg t;obtain⟨k,hk,_⟩:=(h.kids hg u).1 hu;rw[hne] at hk;cases hk
 ·exact Nat.dvd_add (Nat.dvd_trans (Nat.pow_dvd_pow 2 (Nat.le_succ m)) h.dv) (Nat.dvd_mul_left _ _)
theorem zcG.len {l:List Nd}{ax e top m:Nat}{O:List Int}{V:Nat}(h:zcG l ax e top (m+1) O V):O.length≤l.length:=zpP h.nd fun x hx=>by
 have:=h.num x hx (by omega);exact⟨this.1,this.2.1⟩
theorem zcG.done {l:List Nd}{ax e top:Nat}{O:List Int}{V:Nat}(h:zcG l ax e top 0 O V):EdS ax e top (fun u=>u=den l l.length) (edZ e top ((V:Int)-p2 (top-1))):=by
 rw[zpS];exact h.des.done
theorem zcG.low {l:List Nd}{ax e top:Nat}{O:List Int}{V:Nat}(h:zcG l ax e top 0 O V)(hg:zaq l)(h0:0<l.length)(ht:(top:Int)=(at_ l (l.length-1)).lv):(V:Int)<p2 top:=by
 have hw:=zbv hg.1 (l.length-1) (by omega);rw[Nat.sub_add_cancel (by omega),←ht] at hw;have h1:=h.done.in_ (fun t ht=>by have ht':t=den l l.length:=ht;rw[ht'];exact hw);unfold edZ at h1;split at h1 <;> omega
theorem ZsB.off {w:World}{A:Option Addr}{c:Nat}{K:List Int}(h:ZsB w A c K){g k:Nat}{x:Nat}(hg:w.cell? ⟨g,k,none⟩=some (.int .u32 (x:Int)))(hk:∀a,A=some a→a.block≠g)(v:Value):ZsB (w.setCell ⟨g,k,none⟩ v) A c K :=
 ⟨h.1,h.2.1,fun hn=>by
  obtain⟨b,e,hlt,hc⟩:=h.2.2 hn;exact⟨b,e,by simpa [World.setCell] using hlt,fun j hj=>(World.cell?_of_block (Below.heap_setCell w ⟨g,k,none⟩ v b (hk _ e))).trans (hc j hj)⟩⟩
structure OuJ (w:World)(A:Option Addr)(c n:Nat)(l:List Nd)(ax e top gl nl lev:Nat)(v:Value)(O:List Int)(rs:List Nat)(W:World):Prop where
 b:Below w.heap.size w W
 q:W.heap[w.heap.size]?=some (.cells #[.slice A n c] 28)
 r:W.heap[w.heap.size+1]?=some bw0.obj
 u:OwnU W (w.heap.size+2) gl nl rs
 o:∃B d,v=.slice B O.length d∧ZsB W B d O∧∀a,B=some a→a.block≠gl
 d:zcG l ax e top lev O (val rs)
theorem OuJ.next {w:World}{A:Option Addr}{c n:Nat}{l:List Nd}{ax e top gl nl lev:Nat}{v:Value}{O:List Int}{rs:List Nat}{W W1:World}(h:OuJ w A c n l ax e top gl nl lev v O rs W)(k:Below W.heap.size W W1):OuJ w A c n l ax e top gl nl lev v O rs W1 :=
 ⟨h.b.trans (k.mono h.b.size),(k.block _ (Array.getElem?_eq_some_iff.1 h.q).1).trans h.q,(k.block _ (Array.getElem?_eq_some_iff.1 h.r).1).trans h.r,h.u.below k,by
  obtain⟨B,d,h1,h2,h3⟩:=h.o;exact⟨B,d,h1,h2.next k,h3⟩,h.d⟩
theorem OuJ.step {w:World}{A:Option Addr}{c n:Nat}{l:List Nd}{ax e top gl nl m b:Nat}{v v':Value}{O K:List Int}{rs:List Nat}{W W1:World}(h:OuJ w A c n l ax e top gl nl (m+1) v O rs W)(k:Below W.heap.size W W1)(hK:OwnZ W1 W.heap.size v' K)
  (hm:m / 32<nl) (hb:b<2) (hd:zcG l ax e top m K (val rs+b*2^m)) :
  OuJ w A c n l ax e top gl nl m v' K (rs.set (m / 32) (rs[m / 32]?.getD 0 ||| (b*2^(m%32)))) ((W1.setCell ⟨gl,m / 32,none⟩ (.int .u32 ((rs[m / 32]?.getD 0 ||| (b*2^(m%32)):Nat):Int))).drewN 1):=by
 have h1:=h.next k;have hgl:=h.u.base;have hlt:=h.u.lt;have hl:=h.u.2.1;have hx:=h.u.1.getD (m / 32);refine⟨zaa (h1.b.setCell (p:=⟨gl,m / 32,none⟩) (by show w.heap.size≤gl;omega) _) 1,?_,?_,(h1.u.set (m / 32) (zwp hx (by omega) hb)).below (zaa (Below.refl _ _) 1),?_,?_⟩
 ·exact(Below.heap_setCell _ _ _ _ (show w.heap.size≠gl by omega)).trans h1.q
 ·exact(Below.heap_setCell _ _ _ _ (show w.heap.size+1≠gl by omega)).trans h1.r
 ·obtain⟨B,d,e1,e2⟩:=hK.zs;have e3:∀a,B=some a→a.block≠gl:=fun a ha=>by
   have:=hK.lt a.block (by rw[e1,ha];rfl);omega
  exact⟨B,d,e1,(e2.off (h1.u.cell hm) e3 _).next (zaa (Below.refl _ _) 1),e3⟩
 ·rw[zvB h.u.1 (by omega) hb h.d.dv];exact hd
theorem zeE (ax e n c:Nat)(A:Option Addr)(l:List Nd)(w:World)(h:Ns w A c l)(hn:l.length=n)(h0:0<n)(hn9:n≤900000)(hg:zaq l)(hax:ax≤1)(he:e≤1) :
  Calls Tryz.prog 206 #[.agg #[.slice A n c],.int .i64 (ax:Int),.int .i64 (e:Int)] w fun en w'=>∃Z:Int,RetI Z w en w'∧EdS ax e (at_ l (n-1)).lv.toNat (fun u=>u=den l n) (edZ e (at_ l (n-1)).lv.toNat Z):=by
 have hlv:=zap (zad hg.1 (i:=n-1) (by omega));have hlz:zcs l=(at_ l (n-1)).lv:=by
  unfold zcs;rw[if_neg (fun e=>by rw[e] at hn;simp at hn;omega),hn]
 obtain⟨top,htop⟩:∃top:Nat,(top:Int)=(at_ l (n-1)).lv:=⟨(at_ l (n-1)).lv.toNat,by omega⟩;rw[←htop] at hlv hlz ⊢;rw[show((top:Int).toNat)=top by omega];have HD0:=Hh (zcG.start hg (by omega) ax e (top:=top) (by rw[hn];exact htop));have HTP:=Hh htop;clear htop;obtain⟨nl,hnl⟩:∃nl,nl=(top+31) / 32:=⟨_,rfl⟩;have hcap:=h.cap;rw[hn] at hcap;obtain⟨i0,hi,hz0,hz1,hz2⟩:=info_parts Tryz.infoU;have HI:=Hh (And.intro hi (And.intro hz0 (And.intro hz1 hz2)));have b1:=(Below.refl w.heap.size w).alloc (Nat.le_refl _) (.cells #[.slice A n c] 28);have b2:=b1.alloc (by simp) bw0.obj;have hq:=heap_alloc_new w (.cells #[.slice A n c] 28);have hr:=heap_alloc_new (w.alloc (.cells #[.slice A n c] 28)) bw0.obj;rw[World.size_alloc] at hr;have hq2:=(((Below.refl (w.heap.size+1) (w.alloc (.cells #[.slice A n c] 28))).alloc (by simp) bw0.obj).block w.heap.size (by omega)).trans hq;have HQ:=Hh hq2;have HR:=Hh hr;have HB:=Hh b2;have HN:=Hh h;have HNL:=Hh hn;have HLZ:=Hh hlz;have HTL:=Hh hnl;have HG:=Hh hg;have e1:IntKind.i64.wrap ((top:Int)+32-1)=(top:Int)+31:=by rw[show(top:Int)+32-1=(top:Int)+31 by omega];exact IntWalk.i64_in _ (by omega)
 have e2:((top:Int)+31) / 32=(nl:Int):=by omega
 have e3:Int.tdiv ((top:Int)+31) 32=(nl:Int):=by rw[Int.tdiv_eq_ediv_of_nonneg (by omega)];exact e2
 have e4:IntKind.i64.wrap (nl:Int)=(nl:Int):=IntWalk.i64_in _ (by omega);clear h hn hlz hg hi hz0 hz1 hz2 hq hr hq2 b1 b2 hnl;dsimp only[bw0,Bw.obj,List.length_nil] at HR HB;go_enter Tryz.func206,Tryz.ntmps206;go_wp2_with (first
  | (go_at_call 196;go_loud (refine(znn A c n l _ (HN.out.below HB.out) HNL.out).mono ?_;rintro e w1 ⟨rfl,b1⟩;rw[HLZ.out];have B1:=Hh b1;clear b1))
  | (at_make;go_loud (refine wpList_make_full _ rfl _ _ 46 rfl (w.heap.size+2) 137 i0 _ 1 Tryz.underlying46 HI.out.1 HI.out.2.1 HI.out.2.2.1 .i64 .i64 _ _ nl rfl rfl (by omega) (by omega) (by rw[HI.out.2.2.2];omega) (by unfold maxLen;omega) (by have:=B1.out.size;simp only[World.size_alloc] at this;omega) ?_;intro w2 own grow;have hb2:Below w1.heap.size w1 w2:=(Below.refl _ _).grown grow (Nat.le_refl _) (fun k hk=>by cases hk);have B2:=Hh (B1.out.trans (hb2.mono B1.out.size));have g1:=zab ((B2.out.block w.heap.size (by simp;omega)).trans HQ.out);have OW:=Hh (OwnU.made own);clear own grow hb2)))
 obtain⟨gl,hgl⟩:∃gl,gl=w1.heap.size:=⟨_,rfl⟩;rw[←hgl] at OW ⊢;have j0:OuJ w A c n l ax e top gl nl top (.slice (some ⟨w2.heap.size,0,none⟩) 1 1) [(n:Int)] (List.replicate nl 0) (w2.alloc (.cells #[.int .i64 (n:Int)] 3)):=by
  have hb3:Below w2.heap.size w2 (w2.alloc (.cells #[.int .i64 (n:Int)] 3)):=(Below.refl _ _).alloc (Nat.le_refl _) _;have hb4:=B2.out.trans (hb3.mono B2.out.size);have hs2:=B2.out.size;simp only[World.size_alloc] at hs2;refine⟨HB.out.trans (hb4.mono (by simp;omega)),(hb4.block w.heap.size (by simp;omega)).trans HQ.out,(hb4.block (w.heap.size+1) (by simp)).trans HR.out,OW.out.below hb3,⟨_,_,rfl,⟨by simp,by simp[maxLen],fun _=>⟨_,rfl,by simp,fun j hj=>?_⟩⟩,fun a ha=>?_⟩,?_⟩
  ·have hj0:j=0:=by simpa using hj
   subst hj0;exact zab (heap_alloc_new _ _)
  ·have:=OW.out.lt;injection ha with ha
   subst ha;show w2.heap.size≠gl;omega
  ·rw[zlt];have:=HD0.out
   rwa [HNL.out] at this
 have J0:=Hh j0;clear j0 hgl OW B2 B1 g1;go_loopw [10,9] (fun i z wr=>∃(x:Int) (lev:Nat) (v:Value) (O:List Int) (rs:List Nat),lev≤top∧i=.int .i64 x∧x+1=lev∧v=z∧OuJ w A c n l ax e top gl nl lev v O rs wr) (fun i _ _=>(intOf i+1).toNat)
 case atStart=>exact⟨_,top,_,_,_,by omega,by first|rfl|trivial,by omega,rfl,J0.out⟩
 case round =>
  obtain⟨x,lev,v,O,rs,hlev,rfl,hx,rfl,hj⟩:=hrel;have J:=Hh hj;clear hj;cases lev with
  | zero =>
   have hx1:x = -1:=by omega
   subst hx1;obtain⟨vr,hvr⟩:∃vr,vr=val rs:=⟨_,rfl⟩;have hlt:=J.out.d;rw[←hvr] at hlt;have HD:=Hh hlt.done;have HV:=Hh hvr;have hb:=J.out.b;have hrl:=J.out.u.2.1;have hvl:(vr:Int)<p2 top:=hlt.low HG.out (by have:=HNL.out;omega) (by have:=HTP.out;rw[HNL.out];exact this);have hp0:=zar (top-1);obtain⟨P,hP⟩:∃P:Int,P=p2 (top-1):=⟨_,rfl⟩;have e5:IntKind.i64.wrap ((top:Int)-1)=((top-1:Nat):Int):=by rw[show(top:Int)-1=((top-1:Nat):Int) by omega];exact IntWalk.i64_in _ (by omega)
   have HPE:=Hh hP;have HP:=Hh (show shlI 1 (((top-1:Nat)):Int)=P by rw[hP];exact zdT _ (by omega));clear hlt hvr hb;go_wp2_with (first
    | (go_at_call 242;go_loud (refine(zpN _ _ _ _ _ J.out.u.reads hrl (by omega)).mono ?_;rintro e w3 h3;rw[←HV.out] at h3;obtain⟨a,rfl,ra,b3⟩:=zam h3;have J3:=Hh (J.out.next b3);have RA:=Hh ra;clear h3 ra b3))
    | (go_at_call 197;go_loud (refine(zry _ _).mono ?_;rintro e w4 h4;rw[HP.out] at h4;obtain⟨q,rfl,rq,b4⟩:=zam h4;have J4:=Hh (J3.out.next b4);have RA:=Hh (RA.out.next b4);have RQ:=Hh rq;clear h4 rq b4))
    | (go_at_call 208;go_loud (refine(zlH a.s q.s a.a q.a a.c q.c a.xs q.xs _ RA.out.us RQ.out.us (Nat.le_trans (zaY RA.out (by have:=zar 1330;omega) (by have:=zaM (show top≤1330 by omega);omega)) (by omega)) (Nat.le_trans (zaY RQ.out (by have:=zar 1330;omega) (by have:=zaM (show top-1≤1330 by omega);omega)) (by omega))).mono ?_;rintro e w5 h5;obtain⟨z,rfl,rz,b5⟩:=zam h5;rw[RA.out.v,RQ.out.v] at rz;have J5:=Hh (J4.out.next b5);have RZ:=Hh rz;clear h5 rz b5;obtain⟨d0,d1,f0,f1⟩:=zdF J5.out.r)))
   have hz:=RZ.out.set (o:=bw0) J5.out.r;have e1:=hz.c0;have e2:=hz.c1;refine bodyPost_ret (v:=.agg #[.bool z.s,.slice z.a z.xs.length z.c]) (by simp[results,Tryz.results206,go_sem,e1,e2]) rfl ?_;refine⟨(vr:Int)-P,⟨z.a,z.c,z.s,z.xs,rfl,hz.r.us,hz.r.cn,hz.r.v,(J5.out.b.setCell (p:=⟨w.heap.size+1,0,none⟩) (Nat.le_succ _) _).setCell (p:=⟨w.heap.size+1,1,none⟩) (Nat.le_succ _) _⟩,?_⟩;have h9:=HD.out
   rwa [HNL.out,←HPE.out] at h9
  | succ m =>
   have hx1:x=(m:Int):=by omega
   subst hx1;obtain⟨B,d,rfl,hz,hbg⟩:=J.out.o;have hzc:=hz.cap;obtain⟨on,hon⟩:∃on,on=O.length:=⟨_,rfl⟩;rw[←hon] at hzc ⊢;have hon9:on≤900000:=by have:=J.out.d.len;have:=HNL.out;omega
   have HZ:=Hh hz;have HON:=Hh hon.symm;have hnum:=Hh (show ∀x∈O,1≤x∧x≤(n:Int) from fun x hx=>by
    have:=J.out.d.num x hx (by omega);have:=HNL.out;exact⟨by omega,by omega⟩)
   obtain⟨wh,hwh⟩:∃k,k=m / 32:=⟨_,rfl⟩;obtain⟨pt,hpt⟩:∃k,k=m%32:=⟨_,rfl⟩;have i1:((m:Int) / 32)=(wh:Int):=by omega
   have i2:((m:Int)%32)=(pt:Int):=by omega
   have l1:(0:Int)≤(m:Int):=by omega
   have l2:(m:Int)≤100000:=by omega
   have l3:(0:Int)≤(wh:Int):=by omega
   have l4:(wh:Int)<(nl:Int):=by have:=HTL.out;omega
   have l5:(0:Int)≤(pt:Int):=by omega
   have l6:(pt:Int)<32:=by omega
   have hxl:=J.out.u.1.getD (m / 32);obtain⟨y,hy⟩:∃y,y=rs[m / 32]?.getD 0:=⟨_,rfl⟩;rw[←hy] at hxl;have HY:=Hh hy;have HWH:=Hh hwh;have HPT:=Hh hpt;have g1:=zab J.out.q;have E:∀b:Nat,b<2→bits .or .u32 (y:Int) ((b:Int)*2^pt%4294967296)=((y ||| (b*2^pt):Nat):Int):=fun b hb=>by
    obtain⟨P,hP⟩:∃P,P=2^pt:=⟨_,rfl⟩;have h2:2^pt<2^32:=Nat.pow_lt_pow_right (by decide) (by omega);have h4:P<4294967296:=by rw[hP];omega
    have h5:((2:Int)^pt)=(P:Int):=by rw[hP];simp
    obtain⟨Q,hQ⟩:∃Q,Q=b*P:=⟨_,rfl⟩;have h3:Q<4294967296:=by
     have:b=0∨b=1:=by omega
     rcases this with rfl|rfl <;> omega
    have h6:(b:Int)*(P:Int)=(Q:Int):=by rw[hQ];simp
    rw[h5,h6,show((Q:Int)%4294967296)=(Q:Int) by omega,u32_or_nat _ _ hxl h3,hQ,hP]
   have HE:=Hh E;clear hz hon hy hwh hpt hxl E;by_cases hK:zeD (zbt l ax e O on)=[]
   ·have HK:=Hh hK;clear hK;obtain⟨f,hf⟩:∃f,f=1-e:=⟨_,rfl⟩;have f1:f≤1:=by omega
    have e7:IntKind.i64.wrap (1-(e:Int))=(f:Int):=by rw[show(1:Int)-(e:Int)=(f:Int) by omega];exact IntWalk.i64_in _ (by omega)
    have HF:=Hh hf;obtain⟨K,hKe⟩:∃K,K=zeD (zbt l ax f O on):=⟨_,rfl⟩;obtain⟨kl,hkl⟩:∃kl,kl=K.length:=⟨_,rfl⟩;have HKE:=Hh hKe;have HKL:=Hh hkl;have q0:True:=trivial;clear hKe hkl hf;go_wp2_with (first
     | (have _t:=q0;go_at_call 241;clear _t;go_loud (refine(zfi ax e n on c d A B l O _ (HN.out.below J.out.b) HNL.out (by omega) HZ.out HON.out (by omega) hnum.out hax he).mono ?_;rintro en w2 ⟨v2,rfl,o2,b2⟩;rw[HK.out] at o2;obtain⟨A2,c2,rfl,z2⟩:=o2.zs;rw[List.length_nil];have J2:=Hh (J.out.next b2);have B2:=Hh b2;have g2:=zab J2.out.q;have HZ2:=Hh (HZ.out.next b2);clear o2 b2 z2;have q1:=q0;clear q0))
     | (have _t:=q1;go_at_call 241;clear _t;go_loud (refine(zfi ax f n on c d A B l O _ (HN.out.below J2.out.b) HNL.out (by omega) HZ2.out HON.out (by omega) hnum.out hax f1).mono ?_;rintro en w3 ⟨v3,rfl,o3,b3⟩;rw[←HKE.out] at o3;obtain⟨A3,c3,rfl,z3⟩:=o3.zs;rw[←HKL.out];have z3c:=z3.cap;rw[←HKL.out] at z3c;have O3:=Hh o3;have J3:=Hh (J2.out.next b3);have B3:=Hh b3;have c5:=J3.out.u.cell (k:=m / 32) (by have:=HTL.out;omega);rw[←HY.out,←HWH.out] at c5;have f5:=J3.out.u.free (m / 32);rw[←HWH.out] at f5;clear o3 b3 z3;have q2:=q1;clear q1)))
    go_region;rw[HE.out f (by omega)];go_wp2_with fail;go_roundw
    case rel =>
     have h9:=J2.out.step B3.out O3.out (b:=f) (by have:=HTL.out;omega) (by omega) (by
      have h8:=J2.out.d.far HG.out he (by rw[HON.out];exact HK.out);rw[←HF.out] at h8
      rwa [HON.out,←HKE.out] at h8)
     rw[←HY.out,←HWH.out,←HPT.out] at h9;refine⟨_,m,_,K,rs.set wh (y ||| (f*2^pt)),by omega,by go_num,by omega,rfl,?_⟩;rw[HKL.out];exact h9
    case measure=>simp[intOf]
   ·have HK:=Hh hK;clear hK;have hl9:zeD (zbt l ax e O on)≠[]:=HK.out;obtain⟨K,hKe⟩:∃K,K=zeD (zbt l ax e O on):=⟨_,rfl⟩;rw[←hKe] at hl9;obtain⟨kl,hkl⟩:∃kl,kl=K.length:=⟨_,rfl⟩;have HKE:=Hh hKe;have HKL:=Hh hkl;have t1:((kl:Int)==0)=false:=by
     rw[beq_eq_false_iff_ne];intro e9;exact hl9 (List.length_eq_zero_iff.1 (by omega))
    clear hl9 hKe hkl;go_wp2_with (first
     | (go_at_call 241;go_loud (refine(zfi ax e n on c d A B l O _ (HN.out.below J.out.b) HNL.out (by omega) HZ.out HON.out (by omega) hnum.out hax he).mono ?_;rintro en w3 ⟨v3,rfl,o3,b3⟩;rw[←HKE.out] at o3;obtain⟨A3,c3,rfl,z3⟩:=o3.zs;rw[←HKL.out];have z3c:=z3.cap;rw[←HKL.out] at z3c;have O3:=Hh o3;have J3:=Hh (J.out.next b3);have B3:=Hh b3;have g3:=zab J3.out.q;have c5:=J3.out.u.cell (k:=m / 32) (by have:=HTL.out;omega);rw[←HY.out,←HWH.out] at c5;have f5:=J3.out.u.free (m / 32);rw[←HWH.out] at f5;clear o3 b3 z3)))
    go_region;rw[HE.out e (by omega)];go_wp2_with fail;go_roundw
    case rel =>
     have h9:=J.out.step B3.out O3.out (b:=e) (by have:=HTL.out;omega) (by omega) (by
      have h8:=J.out.d.near HG.out he (by rw[HON.out];exact HK.out)
      rwa [HON.out,←HKE.out] at h8)
     rw[←HY.out,←HWH.out,←HPT.out] at h9;refine⟨_,m,_,K,rs.set wh (y ||| (e*2^pt)),by omega,by go_num,by omega,rfl,?_⟩;rw[HKL.out];exact h9
    case measure=>simp[intOf]
theorem zal {W:World}{g:Nat}{a b c d:Value}{t:TypeId}(h:W.heap[g]?=some (.cells #[a,b,c,d] t)) :
  W.cell? ⟨g,0,none⟩=some a∧W.cell? ⟨g,1,none⟩=some b∧W.cell? ⟨g,2,none⟩=some c∧W.cell? ⟨g,3,none⟩=some d∧W.frozen? ⟨g,0,none⟩=false∧W.frozen? ⟨g,1,none⟩=false∧W.frozen? ⟨g,2,none⟩=false∧W.frozen? ⟨g,3,none⟩=false:=by
 refine⟨?_,?_,?_,?_,frozen_of_row W g 0 _ _ h,frozen_of_row W g 1 _ _ h,frozen_of_row W g 2 _ _ h,frozen_of_row W g 3 _ _ h⟩ <;> (rw[cell_of_row W g _ _ _ (0,0) h];rfl)
abbrev twoV (u v:Bw):Value:=.agg #[.bool u.s,.slice u.a u.xs.length u.c,.bool v.s,.slice v.a v.xs.length v.c]
abbrev twoO (u v:Bw):Obj:=.cells #[.bool u.s,.slice u.a u.xs.length u.c,.bool v.s,.slice v.a v.xs.length v.c] 194
structure SpJ (w:World)(A:Option Addr)(c n:Nat)(u v:Bw)(W:World):Prop where
 b:Below w.heap.size w W
 q:W.heap[w.heap.size]?=some (.cells #[.slice A n c] 28)
 r:W.heap[w.heap.size+1]?=some (twoO bw0 bw0)
 s:W.heap[w.heap.size+2]?=some (twoO u v)
theorem SpJ.next {w:World}{A:Option Addr}{c n:Nat}{u v:Bw}{W W1:World}(h:SpJ w A c n u v W)(k:Below W.heap.size W W1):SpJ w A c n u v W1 :=
 ⟨h.b.trans (k.mono h.b.size),(k.block _ (Array.getElem?_eq_some_iff.1 h.q).1).trans h.q,(k.block _ (Array.getElem?_eq_some_iff.1 h.r).1).trans h.r,(k.block _ (Array.getElem?_eq_some_iff.1 h.s).1).trans h.s⟩
theorem SpJ.start (w:World)(A:Option Addr)(c n:Nat):SpJ w A c n bw0 bw0 (((w.alloc (.cells #[.slice A n c] 28)).alloc (twoO bw0 bw0)).alloc (twoO bw0 bw0)):=by
 have b1:=(Below.refl w.heap.size w).alloc (Nat.le_refl _) (.cells #[.slice A n c] 28);have b2:=(Below.refl (w.heap.size+1) (w.alloc (.cells #[.slice A n c] 28))).alloc (by simp) (twoO bw0 bw0);have b3:=(Below.refl (w.heap.size+2) ((w.alloc (.cells #[.slice A n c] 28)).alloc (twoO bw0 bw0))).alloc (by simp) (twoO bw0 bw0);have h1:=heap_alloc_new (w.alloc (.cells #[.slice A n c] 28)) (twoO bw0 bw0);rw[World.size_alloc] at h1;have h2:=heap_alloc_new ((w.alloc (.cells #[.slice A n c] 28)).alloc (twoO bw0 bw0)) (twoO bw0 bw0);rw[World.size_alloc,World.size_alloc] at h2;exact⟨(b1.trans (b2.mono (Nat.le_succ _))).trans (b3.mono (by omega)),(b3.block _ (by omega)).trans ((b2.block _ (by omega)).trans (heap_alloc_new w _)),(b3.block _ (by omega)).trans h1,h2⟩
theorem SpJ.setU {w:World}{A:Option Addr}{c n:Nat}{u v:Bw}{W:World}(h:SpJ w A c n u v W)(x:Bw):SpJ w A c n x v ((W.setCell ⟨w.heap.size+2,0,none⟩ (.bool x.s)).setCell ⟨w.heap.size+2,1,none⟩ (.slice x.a x.xs.length x.c)) :=
 ⟨(h.b.setCell (p:=⟨w.heap.size+2,0,none⟩) (by show _≤w.heap.size+2;omega) _).setCell (p:=⟨w.heap.size+2,1,none⟩) (by show _≤w.heap.size+2;omega) _,
  ((Below.heap_setCell _ _ _ _ (show w.heap.size≠w.heap.size+2 by omega)).trans (Below.heap_setCell _ _ _ _ (show w.heap.size≠w.heap.size+2 by omega))).trans h.q,
  ((Below.heap_setCell _ _ _ _ (show w.heap.size+1≠w.heap.size+2 by omega)).trans (Below.heap_setCell _ _ _ _ (show w.heap.size+1≠w.heap.size+2 by omega))).trans h.r,
  (heap_setCell_same _ _ 1 _ _ _ (heap_setCell_same W _ 0 _ _ _ h.s)).trans rfl⟩
theorem SpJ.setV {w:World}{A:Option Addr}{c n:Nat}{u v:Bw}{W:World}(h:SpJ w A c n u v W)(x:Bw):SpJ w A c n u x ((W.setCell ⟨w.heap.size+2,2,none⟩ (.bool x.s)).setCell ⟨w.heap.size+2,3,none⟩ (.slice x.a x.xs.length x.c)) :=
 ⟨(h.b.setCell (p:=⟨w.heap.size+2,2,none⟩) (by show _≤w.heap.size+2;omega) _).setCell (p:=⟨w.heap.size+2,3,none⟩) (by show _≤w.heap.size+2;omega) _,
  ((Below.heap_setCell _ _ _ _ (show w.heap.size≠w.heap.size+2 by omega)).trans (Below.heap_setCell _ _ _ _ (show w.heap.size≠w.heap.size+2 by omega))).trans h.q,
  ((Below.heap_setCell _ _ _ _ (show w.heap.size+1≠w.heap.size+2 by omega)).trans (Below.heap_setCell _ _ _ _ (show w.heap.size+1≠w.heap.size+2 by omega))).trans h.r,
  (heap_setCell_same _ _ 3 _ _ _ (heap_setCell_same W _ 2 _ _ _ h.s)).trans rfl⟩
theorem zjU {W:World}{g:Nat}{u v:Bw}(h:W.heap[g]?=some (twoO u v)):∀o x,W.cell? ⟨g,o,none⟩=some x→∀k,x≠.int .u32 k:=fun o x hx k e=>by
 subst e;rw[cell_of_row W g _ _ _ _ h] at hx
 match o with
 | 0=>simp at hx
 | 1=>simp at hx
 | 2=>simp at hx
 | 3=>simp at hx
 | o+4=>simp at hx
theorem Bw.R.spot {x:Bw}{W:World}{X:Int}(h:x.R W X){g k j:Nat}{u v:Bw}(hb:W.heap[g]?=some (twoO u v))(a b:Value):x.R ((W.setCell ⟨g,k,none⟩ a).setCell ⟨g,j,none⟩ b) X :=
 ⟨zcF h.us (fun q _ hq=>(Below.heap_setCell _ _ _ _ hq).trans (Below.heap_setCell _ _ _ _ hq)) (by simp[World.setCell]) (zdS h.us (zjU hb)),h.cn,h.v⟩
theorem zlc (ax n c:Nat)(A:Option Addr)(l:List Nd)(w:World)(h:Ns w A c l)(hn:l.length=n)(h0:0<n)(hn9:n≤900000)(hg:zaq l)(hax:ax≤1) :
  Calls Tryz.prog 206 #[.agg #[.slice A n c],.int .i64 (ax:Int),.int .i64 0] w fun en w'=>∃Z:Int,RetI Z w en w'∧EdS ax 0 (at_ l (n-1)).lv.toNat (fun u=>u=den l n) (edZ 0 (at_ l (n-1)).lv.toNat Z):=zeE ax 0 n c A l w h hn h0 hn9 hg hax (by omega)
theorem znG (ax n c:Nat)(A:Option Addr)(l:List Nd)(w:World)(h:Ns w A c l)(hn:l.length=n)(h0:0<n)(hn9:n≤900000)(hg:zaq l)(hax:ax≤1) :
  Calls Tryz.prog 206 #[.agg #[.slice A n c],.int .i64 (ax:Int),.int .i64 1] w fun en w'=>∃Z:Int,RetI Z w en w'∧EdS ax 1 (at_ l (n-1)).lv.toNat (fun u=>u=den l n) (edZ 1 (at_ l (n-1)).lv.toNat Z):=zeE ax 1 n c A l w h hn h0 hn9 hg hax (by omega)
def zpT (l:List Nd)(ax n:Nat)(w:World)(e:Ending)(w':World):Prop :=
 ∃(u v:Bw) (X Y:Int),e=.returned (twoV u v)∧u.R w' X∧v.R w' Y∧EdS ax 0 (at_ l (n-1)).lv.toNat (fun u=>u=den l n) (edZ 0 (at_ l (n-1)).lv.toNat X)∧EdS ax 1 (at_ l (n-1)).lv.toNat (fun u=>u=den l n) (edZ 1 (at_ l (n-1)).lv.toNat Y)∧Below w.heap.size w w'
theorem zhT (ax n c:Nat)(A:Option Addr)(l:List Nd)(w:World)(h:Ns w A c l)(hn:l.length=n)(h0:0<n)(hn9:n≤900000)(hg:zaq l)(hax:ax≤1) :
  Calls Tryz.prog 161 #[.agg #[.slice A n c],.int .i64 (ax:Int)] w (zpT l ax n w):=by
 have hcap:=h.cap;rw[hn] at hcap;have j0:=SpJ.start w A c n;have J0:=Hh j0;obtain⟨d0,d1,d2,d3,f0,f1,f2,f3⟩:=zal j0.s;have g0:=zab j0.q;have HN:=Hh h;have HNL:=Hh hn;have HG:=Hh hg;have q0:True:=trivial;clear h hn hg j0;dsimp only[bw0,twoO,List.length_nil] at J0 d0 d1 d2 d3 f0 f1 f2 f3 g0;go_enter Tryz.func161,Tryz.ntmps161;go_wp2_with fail;refine wp_loop_rounds 3 ?_;rw[rounds_succ];go_wp2_with (have _t:=q0;go_at_call 206;clear _t;go_loud (refine(zlc ax n c A l _ (HN.out.below J0.out.b) HNL.out h0 hn9 HG.out hax).mono ?_;rintro e w1 ⟨X,h1,e1⟩;obtain⟨u,rfl,ru,b1⟩:=zam h1;have HE1:=Hh e1;have RU:=Hh ru;have J1:=Hh (J0.out.next b1);clear h1 b1 e1 ru;obtain⟨d0,d1,d2,d3,f0,f1,f2,f3⟩:=zal J1.out.s;have g0:=zab J1.out.q;have q1:=q0;clear q0));have J2:=Hh (J1.out.setU u);have RU:=Hh (RU.out.spot J1.out.s (.bool u.s) (.slice u.a u.xs.length u.c) (k:=0) (j:=1));clear d0 d1 d2 d3 f0 f1 f2 f3 g0;obtain⟨d0,d1,d2,d3,f0,f1,f2,f3⟩:=zal J2.out.s;have g0:=zab J2.out.q;rw[rounds_succ];go_wp2_with (have _t:=q1;go_at_call 206;clear _t;go_loud (refine(znG ax n c A l _ (HN.out.below J2.out.b) HNL.out h0 hn9 HG.out hax).mono ?_;rintro e w2 ⟨Y,h2,e2⟩;obtain⟨v,rfl,rv,b2⟩:=zam h2;have HE2:=Hh e2;have RV:=Hh rv;have RU:=Hh (RU.out.next b2);have J3:=Hh (J2.out.next b2);clear h2 b2 e2 rv;obtain⟨d0,d1,d2,d3,f0,f1,f2,f3⟩:=zal J3.out.s;have g0:=zab J3.out.q;have q2:=q1;clear q1));have J4:=Hh (J3.out.setV v);have RU:=Hh (RU.out.spot J3.out.s (.bool v.s) (.slice v.a v.xs.length v.c) (k:=2) (j:=3));have RV:=Hh (RV.out.spot J3.out.s (.bool v.s) (.slice v.a v.xs.length v.c) (k:=2) (j:=3));clear d0 d1 d2 d3 f0 f1 f2 f3 g0;obtain⟨d0,d1,d2,d3,f0,f1,f2,f3⟩:=zal J4.out.s;obtain⟨z0,z1,z2,z3,y0,y1,y2,y3⟩:=zal J4.out.r;have g0:=zab J4.out.q;dsimp only[bw0,List.length_nil] at z0 z1 z2 z3;rw[rounds_succ];go_wp2_with fail;generalize hW:(w2.setCell ⟨w.heap.size+2,2,none⟩ (.bool v.s)).setCell ⟨w.heap.size+2,3,none⟩ (.slice v.a v.xs.length v.c)=W at *;have r1:((W.setCell ⟨w.heap.size+1,0,none⟩ (.bool u.s)).setCell ⟨w.heap.size+1,1,none⟩ (.slice u.a u.xs.length u.c)).heap[w.heap.size+1]?=some (twoO u bw0):=(heap_setCell_same _ _ 1 _ _ _ (heap_setCell_same W _ 0 _ _ _ J4.out.r)).trans rfl;have RU:=Hh ((RU.out.spot J4.out.r (.bool u.s) (.slice u.a u.xs.length u.c) (k:=0) (j:=1)).spot r1 (.bool v.s) (.slice v.a v.xs.length v.c) (k:=2) (j:=3));have RV:=Hh ((RV.out.spot J4.out.r (.bool u.s) (.slice u.a u.xs.length u.c) (k:=0) (j:=1)).spot r1 (.bool v.s) (.slice v.a v.xs.length v.c) (k:=2) (j:=3));have r2:((((W.setCell ⟨w.heap.size+1,0,none⟩ (.bool u.s)).setCell ⟨w.heap.size+1,1,none⟩ (.slice u.a u.xs.length u.c)).setCell ⟨w.heap.size+1,2,none⟩ (.bool v.s)).setCell ⟨w.heap.size+1,3,none⟩ (.slice v.a v.xs.length v.c)).heap[w.heap.size+1]?=some (twoO u v):=(heap_setCell_same _ _ 3 _ _ _ (heap_setCell_same _ _ 2 _ _ _ r1)).trans rfl;obtain⟨e1,e2,e3,e4,-⟩:=zal r2;have hbw:=(((J4.out.b.setCell (p:=⟨w.heap.size+1,0,none⟩) (Nat.le_succ _) (.bool u.s)).setCell (p:=⟨w.heap.size+1,1,none⟩) (Nat.le_succ _) (.slice u.a u.xs.length u.c)).setCell (p:=⟨w.heap.size+1,2,none⟩) (Nat.le_succ _) (.bool v.s)).setCell (p:=⟨w.heap.size+1,3,none⟩) (Nat.le_succ _) (.slice v.a v.xs.length v.c);refine bodyPost_ret (v:=twoV u v) (by simp[results,Tryz.results161,go_sem,e1,e2,e3,e4]) rfl ?_;exact⟨u,v,X,Y,rfl,RU.out,RV.out,HE1.out,HE2.out,hbw⟩
def xb0:Xb:=⟨bw0,bw0,bw0,bw0⟩
def zjV (l:List Nd)(ax n:Nat)(X Y:Int):Prop:=EdS ax 0 (at_ l (n-1)).lv.toNat (fun u=>u=den l n) (edZ 0 (at_ l (n-1)).lv.toNat X)∧EdS ax 1 (at_ l (n-1)).lv.toNat (fun u=>u=den l n) (edZ 1 (at_ l (n-1)).lv.toNat Y)
theorem zjV.low {l:List Nd}{ax n:Nat}{X Y:Int}(h:zjV l ax n X Y)(hg:zaq l)(hn:l.length=n)(h0:0<n):(-p2 1328≤X∧X≤p2 1328)∧-p2 1328≤Y∧Y≤p2 1328:=by
 have hlv:=zap (zad hg.1 (i:=n-1) (by omega));have hw:=zbv hg.1 (n-1) (by omega);rw[Nat.sub_add_cancel (by omega)] at hw;obtain⟨top,htop⟩:∃top:Nat,(at_ l (n-1)).lv=(top:Int):=⟨(at_ l (n-1)).lv.toNat,by omega⟩;obtain⟨h1,h2⟩:=h;rw[htop] at hlv hw h1 h2;rw[Int.toNat_natCast] at h1 h2;have e1:=h1.in_ (fun t ht=>by have ht':t=den l n:=ht;rw[ht'];exact hw);have e2:=h2.in_ (fun t ht=>by have ht':t=den l n:=ht;rw[ht'];exact hw);have m2:=zaM (show top-1≤1328 by omega);have m3:=zau (top-1);rw[Nat.sub_add_cancel (by omega)] at m3;unfold edZ at e1 e2;rw[if_pos rfl] at e1;rw[if_neg (by omega)] at e2;omega
structure OfI (w:World)(A:Option Addr)(c n:Nat)(l:List Nd)(j:Nat)(p q:Bool)(v4 v5 t12 t14:Value)(W:World):Prop where
 b:Below w.heap.size w W
 x:W.heap[w.heap.size]?=some (.cells #[.slice A n c] 28)
 r:W.heap[w.heap.size+1]?=some xb0.obj
 s4:p=true→∃g,v4=.pointer (some ⟨g,0,none⟩)∧W.heap[g]?=some (twoO bw0 bw0)∧w.heap.size+2≤g
 s5:q=true→∃g,v5=.pointer (some ⟨g,0,none⟩)∧W.heap[g]?=some (twoO bw0 bw0)∧w.heap.size+2≤g
 ne:p=true→q=true→¬ v4=v5
 c1:1≤j→∃(u v:Bw) (X Y:Int),t12=twoV u v∧u.R W X∧v.R W Y∧zjV l 0 n X Y
 c2:2≤j→∃(u v:Bw) (X Y:Int),t14=twoV u v∧u.R W X∧v.R W Y∧zjV l 1 n X Y
section
variable {w W W':World} {A:Option Addr} {c n j:Nat} {l:List Nd} {p q:Bool} {v4 v5 t12 t14 t:Value} {e:Ending}
theorem OfI.next (h:OfI w A c n l j p q v4 v5 t12 t14 W)(k:Below W.heap.size W W'):OfI w A c n l j p q v4 v5 t12 t14 W' :=
 ⟨h.b.trans (k.mono h.b.size),(k.block _ (Array.getElem?_eq_some_iff.1 h.x).1).trans h.x,(k.block _ (Array.getElem?_eq_some_iff.1 h.r).1).trans h.r,fun e=>by
  obtain⟨g,h1,h2,h3⟩:=h.s4 e;exact⟨g,h1,(k.block _ (Array.getElem?_eq_some_iff.1 h2).1).trans h2,h3⟩,fun e=>by
  obtain⟨g,h1,h2,h3⟩:=h.s5 e;exact⟨g,h1,(k.block _ (Array.getElem?_eq_some_iff.1 h2).1).trans h2,h3⟩,h.ne,fun e=>by
  obtain⟨u,v,X,Y,h1,h2,h3,h4⟩:=h.c1 e;exact⟨u,v,X,Y,h1,h2.next k,h3.next k,h4⟩,fun e=>by
  obtain⟨u,v,X,Y,h1,h2,h3,h4⟩:=h.c2 e;exact⟨u,v,X,Y,h1,h2.next k,h3.next k,h4⟩⟩
theorem OfI.call1 (h:OfI w A c n l 0 p q v4 v5 t12 t14 W)(k:zpT l 0 n W (.returned t) W'):OfI w A c n l 1 p q v4 v5 t t14 W':=by
 obtain⟨u,v,X,Y,h1,h2,h3,h4,h5,h6⟩:=k;have hn:=h.next h6;injection h1 with h1
 exact⟨hn.b,hn.x,hn.r,hn.s4,hn.s5,hn.ne,fun _=>⟨u,v,X,Y,h1,h2,h3,h4,h5⟩,fun e=>by omega⟩
theorem OfI.call2 (h:OfI w A c n l 1 p q v4 v5 t12 t14 W)(k:zpT l 1 n W (.returned t) W'):OfI w A c n l 2 p q v4 v5 t12 t W':=by
 obtain⟨u,v,X,Y,h1,h2,h3,h4,h5,h6⟩:=k;have hn:=h.next h6;injection h1 with h1
 exact⟨hn.b,hn.x,hn.r,hn.s4,hn.s5,hn.ne,fun _=>hn.c1 (by omega),fun _=>⟨u,v,X,Y,h1,h2,h3,h4,h5⟩⟩
theorem OfI.allocP (h:OfI w A c n l j false q v4 v5 t12 t14 W):OfI w A c n l j true q (.pointer (some ⟨W.heap.size,0,none⟩)) v5 t12 t14 (W.alloc (twoO bw0 bw0)):=by
 have hn:=h.next ((Below.refl W.heap.size W).alloc (Nat.le_refl _) (twoO bw0 bw0));have hr:=(Array.getElem?_eq_some_iff.1 h.r).1;exact⟨hn.b,hn.x,hn.r,fun _=>⟨_,rfl,heap_alloc_new W _,by omega⟩,hn.s5,fun _ eq e=>by
  obtain⟨g,h1,h2,-⟩:=h.s5 eq;rw[←e] at h1;injection h1 with h1
  injection h1 with h1
  injection h1 with h1
  have h3:=(Array.getElem?_eq_some_iff.1 h2).1;omega,hn.c1,hn.c2⟩
theorem OfI.allocQ (h:OfI w A c n l j p false v4 v5 t12 t14 W):OfI w A c n l j p true v4 (.pointer (some ⟨W.heap.size,0,none⟩)) t12 t14 (W.alloc (twoO bw0 bw0)):=by
 have hn:=h.next ((Below.refl W.heap.size W).alloc (Nat.le_refl _) (twoO bw0 bw0));have hr:=(Array.getElem?_eq_some_iff.1 h.r).1;exact⟨hn.b,hn.x,hn.r,hn.s4,fun _=>⟨_,rfl,heap_alloc_new W _,by omega⟩,fun ep _ e=>by
  obtain⟨g,h1,h2,-⟩:=h.s4 ep;rw[e] at h1;injection h1 with h1
  injection h1 with h1
  injection h1 with h1
  have h3:=(Array.getElem?_eq_some_iff.1 h2).1;omega,hn.c1,hn.c2⟩
end
def put2 (W:World)(g:Nat)(u v:Bw):World:=(((W.setCell ⟨g,0,none⟩ (.bool u.s)).setCell ⟨g,1,none⟩ (.slice u.a u.xs.length u.c)).setCell ⟨g,2,none⟩ (.bool v.s)).setCell ⟨g,3,none⟩ (.slice v.a v.xs.length v.c)
theorem zpU {W:World}{g:Nat}{a b:Bw}(h:W.heap[g]?=some (twoO a b))(u v:Bw):(put2 W g u v).heap[g]?=some (twoO u v) :=
 (heap_setCell_same _ _ 3 _ _ _ (heap_setCell_same _ _ 2 _ _ _ (heap_setCell_same _ _ 1 _ _ _ (heap_setCell_same W _ 0 _ _ _ h)))).trans rfl
theorem zdb {W:World}{g k:Nat}(hk:k≠g)(u v:Bw):(put2 W g u v).heap[k]?=W.heap[k]? :=
 (((Below.heap_setCell _ _ _ _ hk).trans (Below.heap_setCell _ _ _ _ hk)).trans (Below.heap_setCell _ _ _ _ hk)).trans (Below.heap_setCell _ _ _ _ hk)
theorem zpV (W:World)(g:Nat)(u v:Bw):(put2 W g u v).heap.size=W.heap.size:=by simp[put2,World.setCell]
theorem zhU {B:Nat}{w W:World}(h:Below B w W){g:Nat}(hg:B≤g)(u v:Bw):Below B w (put2 W g u v) :=
 ((((h.setCell (p:=⟨g,0,none⟩) hg _).setCell (p:=⟨g,1,none⟩) hg _).setCell (p:=⟨g,2,none⟩) hg _).setCell (p:=⟨g,3,none⟩) hg _)
theorem Bw.R.put2 {x:Bw}{W:World}{X:Int}(h:x.R W X){g:Nat}{a b:Bw}(hb:W.heap[g]?=some (twoO a b))(u v:Bw):x.R (put2 W g u v) X :=
 ⟨zcF h.us (fun q _ hq=>zdb hq u v) (by rw[zpV];exact Nat.le_refl _) (zdS h.us (zjU hb)),h.cn,h.v⟩
def BoC (w:World)(l:List Nd)(n:Nat)(s4 s5:Value)(W:World):Prop :=
 ∃(g4 g5:Nat) (u v x y:Bw) (X Y Z T:Int),s4=.pointer (some ⟨g4,0,none⟩)∧s5=.pointer (some ⟨g5,0,none⟩)∧W.heap[g4]?=some (twoO u v)∧W.heap[g5]?=some (twoO x y)∧u.R W X∧v.R W Y∧x.R W Z∧y.R W T∧zjV l 0 n X Y∧zjV l 1 n Z T∧Below w.heap.size w W∧W.heap[w.heap.size+1]?=some xb0.obj∧w.heap.size+2≤g4∧w.heap.size+2≤g5
theorem OfI.last {w W:World}{A:Option Addr}{c n:Nat}{l:List Nd}{v4 v5 t12 t14:Value}(h:OfI w A c n l 2 true true v4 v5 t12 t14 W) :
  ∃(g4 g5:Nat) (u v x y:Bw),v4=.pointer (some ⟨g4,0,none⟩)∧v5=.pointer (some ⟨g5,0,none⟩)∧t12=twoV u v∧t14=twoV x y∧¬ g4=g5∧¬ g5=g4∧¬ w.heap.size=g4∧¬ w.heap.size=g5∧W.heap[g4]?=some (twoO bw0 bw0)∧(put2 W g4 u v).heap[g5]?=some (twoO bw0 bw0) ∧
   BoC w l n v4 v5 (put2 (put2 W g4 u v) g5 x y):=by
 obtain⟨g4,rfl,h1,h2⟩:=h.s4 rfl;obtain⟨g5,rfl,h3,h4⟩:=h.s5 rfl;obtain⟨u,v,X,Y,rfl,ru,rv,s1⟩:=h.c1 (by omega);obtain⟨x,y,Z,T,rfl,rx,ry,s2⟩:=h.c2 (by omega);have hne:¬ g4=g5:=fun e=>h.ne rfl rfl (by rw[e]);have h5:(put2 W g4 u v).heap[g5]?=some (twoO bw0 bw0):=(zdb (fun e=>hne e.symm) u v).trans h3;refine⟨g4,g5,u,v,x,y,rfl,rfl,rfl,rfl,hne,fun e=>hne e.symm,by omega,by omega,h1,h5,g4,g5,u,v,x,y,X,Y,Z,T,rfl,rfl,(zdb hne x y).trans (zpU h1 u v),zpU h5 x y,(ru.put2 h1 u v).put2 h5 x y,(rv.put2 h1 u v).put2 h5 x y,(rx.put2 h1 u v).put2 h5 x y,(ry.put2 h1 u v).put2 h5 x y,s1,s2,zhU (zhU h.b (show _≤g4 by omega) u v) (show _≤g5 by omega) x y,(zdb (by omega) x y).trans ((zdb (by omega) u v).trans h.r),h2,h4⟩
theorem zfV (n c:Nat)(A:Option Addr)(l:List Nd)(w:World)(h:Ns w A c l)(hn:l.length=n)(h0:0<n)(hn9:n≤900000)(hg:zaq l) :
  Calls Tryz.prog 161 #[.agg #[.slice A n c],.int .i64 0] w (zpT l 0 n w):=zhT 0 n c A l w h hn h0 hn9 hg (by omega)
theorem zfW (n c:Nat)(A:Option Addr)(l:List Nd)(w:World)(h:Ns w A c l)(hn:l.length=n)(h0:0<n)(hn9:n≤900000)(hg:zaq l) :
  Calls Tryz.prog 161 #[.agg #[.slice A n c],.int .i64 1] w (zpT l 1 n w):=zhT 1 n c A l w h hn h0 hn9 hg (by omega)
def znH (l:List Nd)(n:Nat)(w:World)(e:Ending)(w':World):Prop :=
 ∃(u:Xb) (X Y V H:Int) (ok:Bool),e=.returned (.tuple #[u.val,.bool ok])∧u.R w' X Y V H∧u.Sh∧Below w.heap.size w w' ∧
  ((n=0∧ok=false∧X=0∧Y=0∧V=0∧H=0)∨(0<n∧ok=true∧BoxT (den l n) (at_ l (n-1)).lv.toNat X Y V H))
theorem zhu (W:World):bw0.R W 0:=⟨Us.nil W,⟨zbh,by simp[bw0]⟩,rfl⟩
theorem Xb.cellsF {W:World}{g:Nat}{u:Xb}(h:W.heap[g]?=some u.obj):W.frozen? ⟨g,0,none⟩=false∧W.frozen? ⟨g,1,none⟩=false∧W.frozen? ⟨g,2,none⟩=false∧W.frozen? ⟨g,3,none⟩=false∧W.frozen? ⟨g,4,none⟩=false∧W.frozen? ⟨g,5,none⟩=false∧W.frozen? ⟨g,6,none⟩=false∧W.frozen? ⟨g,7,none⟩=false:=by
 refine⟨?_,?_,?_,?_,?_,?_,?_,?_⟩ <;> exact frozen_of_row W g _ _ _ h
theorem zus {W:World}{g:Nat}{u:Xb}(h:W.heap[g]?=some u.obj):∀o x,W.cell? ⟨g,o,none⟩=some x→∀k,x≠.int .u32 k:=fun o x hx k e=>by
 subst e;rw[cell_of_row W g _ _ _ _ h] at hx
 match o with
 | 0=>simp at hx
 | 1=>simp at hx
 | 2=>simp at hx
 | 3=>simp at hx
 | 4=>simp at hx
 | 5=>simp at hx
 | 6=>simp at hx
 | 7=>simp at hx
 | o+8=>simp at hx
def putX (W:World)(g:Nat)(b:Xb):World:=(((((((W.setCell ⟨g,0,none⟩ (.bool b.x.s)).setCell ⟨g,1,none⟩ (.slice b.x.a b.x.xs.length b.x.c)).setCell ⟨g,2,none⟩ (.bool b.y.s)).setCell ⟨g,3,none⟩ (.slice b.y.a b.y.xs.length b.y.c)).setCell ⟨g,4,none⟩ (.bool b.w.s)).setCell ⟨g,5,none⟩ (.slice b.w.a b.w.xs.length b.w.c)).setCell ⟨g,6,none⟩ (.bool b.h.s)).setCell ⟨g,7,none⟩ (.slice b.h.a b.h.xs.length b.h.c)
theorem zpW {W:World}{g:Nat}{a0 a1 a2 a3 a4 a5 a6 a7 b0 b1 b2 b3:Value}{t:TypeId}(h:W.heap[g]?=some (.cells #[a0,a1,a2,a3,a4,a5,a6,a7] t)) :
  ((((W.setCell ⟨g,0,none⟩ b0).setCell ⟨g,1,none⟩ b1).setCell ⟨g,2,none⟩ b2).setCell ⟨g,3,none⟩ b3).heap[g]?=some (.cells #[b0,b1,b2,b3,a4,a5,a6,a7] t) :=
 (heap_setCell_same _ _ 3 _ _ _ (heap_setCell_same _ _ 2 _ _ _ (heap_setCell_same _ _ 1 _ _ _ (heap_setCell_same W _ 0 _ _ _ h)))).trans rfl
theorem zpX {W:World}{g:Nat}{a0 a1 a2 a3 a4 a5 a6 a7 b0 b1 b2 b3:Value}{t:TypeId}(h:W.heap[g]?=some (.cells #[a0,a1,a2,a3,a4,a5,a6,a7] t)) :
  ((((W.setCell ⟨g,4,none⟩ b0).setCell ⟨g,5,none⟩ b1).setCell ⟨g,6,none⟩ b2).setCell ⟨g,7,none⟩ b3).heap[g]?=some (.cells #[a0,a1,a2,a3,b0,b1,b2,b3] t) :=
 (heap_setCell_same _ _ 7 _ _ _ (heap_setCell_same _ _ 6 _ _ _ (heap_setCell_same _ _ 5 _ _ _ (heap_setCell_same W _ 4 _ _ _ h)))).trans rfl
theorem zpY {W:World}{g:Nat}{a:Xb}(h:W.heap[g]?=some a.obj)(b:Xb):(putX W g b).heap[g]?=some b.obj:=zpX (zpW h)
theorem zfX {W:World}{g k:Nat}(hk:k≠g)(b:Xb):(putX W g b).heap[k]?=W.heap[k]? :=
 (((((((Below.heap_setCell _ _ _ _ hk).trans (Below.heap_setCell _ _ _ _ hk)).trans (Below.heap_setCell _ _ _ _ hk)).trans (Below.heap_setCell _ _ _ _ hk)).trans (Below.heap_setCell _ _ _ _ hk)).trans (Below.heap_setCell _ _ _ _ hk)).trans (Below.heap_setCell _ _ _ _ hk)).trans (Below.heap_setCell _ _ _ _ hk)
theorem zpZ (W:World)(g:Nat)(b:Xb):(putX W g b).heap.size=W.heap.size:=by simp[putX,World.setCell]
theorem zhV {B:Nat}{w W:World}(h:Below B w W){g:Nat}(hg:B≤g)(b:Xb):Below B w (putX W g b) :=
 (((((((h.setCell (p:=⟨g,0,none⟩) hg _).setCell (p:=⟨g,1,none⟩) hg _).setCell (p:=⟨g,2,none⟩) hg _).setCell (p:=⟨g,3,none⟩) hg _).setCell (p:=⟨g,4,none⟩) hg _).setCell (p:=⟨g,5,none⟩) hg _).setCell (p:=⟨g,6,none⟩) hg _).setCell (p:=⟨g,7,none⟩) hg _
theorem Bw.R.putX {x:Bw}{W:World}{X:Int}(h:x.R W X){g:Nat}{a:Xb}(hb:W.heap[g]?=some a.obj)(b:Xb):x.R (putX W g b) X :=
 ⟨zcF h.us (fun q _ hq=>zfX hq b) (by rw[zpZ];exact Nat.le_refl _) (zdS h.us (zus hb)),h.cn,h.v⟩
theorem zsp {l:List Nd}{n:Nat}{X Y Z T:Int}(h:zjV l 0 n X Y)(k:zjV l 1 n Z T):BoxT (den l n) (at_ l (n-1)).lv.toNat X Z (Y-X+1) (T-Z+1):=by
 obtain⟨h1,h2⟩:=h;obtain⟨h3,h4⟩:=k;unfold edZ at h1 h2 h3 h4;rw[if_pos rfl] at h1 h3;rw[if_neg (by omega)] at h2 h4;refine⟨h1,h3,?_,?_⟩
 ·generalize (at_ l (n-1)).lv.toNat=top at *;rw[show p2 top-(Y-X+1)-(X+p2 (top-1))=p2 top-1-(Y+p2 (top-1)) by omega];exact h2
 ·generalize (at_ l (n-1)).lv.toNat=top at *;rw[show p2 top-(T-Z+1)-(Z+p2 (top-1))=p2 top-1-(T+p2 (top-1)) by omega];exact h4
theorem zsq (A:Option Addr)(c:Nat)(w:World):Calls Tryz.prog 122 #[.agg #[.slice A 0 c]] w (znH [] 0 w):=by
 have b1:=(Below.refl w.heap.size w).alloc (Nat.le_refl _) (.cells #[.slice A 0 c] 28);have b2:=b1.alloc (by simp) xb0.obj;have hr:=heap_alloc_new (w.alloc (.cells #[.slice A 0 c] 28)) xb0.obj;rw[World.size_alloc] at hr;obtain⟨e0,e1,e2,e3,e4,e5,e6,e7⟩:=Xb.cells hr;have HB:=Hh b2;dsimp only[xb0,bw0,Xb.obj,List.length_nil] at e0 e1 e2 e3 e4 e5 e6 e7 HB;clear b1 b2 hr;go_enter Tryz.func122,Tryz.ntmps122;go_wp2_with fail;refine bodyPost_ret (v:=.tuple #[xb0.val,.bool false]) (by simp[results,Tryz.results122,go_sem,e0,e1,e2,e3,e4,e5,e6,e7,xb0,bw0]) rfl ?_;exact⟨xb0,0,0,0,0,false,rfl,⟨zhu _,zhu _,zhu _,zhu _⟩,⟨by simp[xb0,bw0],by simp[xb0,bw0],by simp[xb0,bw0],by simp[xb0,bw0]⟩,HB.out,.inl ⟨rfl,rfl,rfl,rfl,rfl,rfl⟩⟩
theorem zsr (n c:Nat)(A:Option Addr)(l:List Nd)(w:World)(h:Ns w A c l)(hn:l.length=n)(h0:0<n)(hn9:n≤900000)(hg:zaq l) :
  Calls Tryz.prog 122 #[.agg #[.slice A n c]] w (znH l n w):=by
 have hcap:=h.cap;rw[hn] at hcap;have b1:=(Below.refl w.heap.size w).alloc (Nat.le_refl _) (.cells #[.slice A n c] 28);have b2:=b1.alloc (by simp) xb0.obj;have hq:=heap_alloc_new w (.cells #[.slice A n c] 28);have hr:=heap_alloc_new (w.alloc (.cells #[.slice A n c] 28)) xb0.obj;rw[World.size_alloc] at hr;have hq2:=(((Below.refl (w.heap.size+1) (w.alloc (.cells #[.slice A n c] 28))).alloc (by simp) xb0.obj).block w.heap.size (by omega)).trans hq;obtain⟨W7,hW7⟩:∃W:World,W=((w.alloc (.cells #[.slice A n c] 28)).alloc xb0.obj):=⟨_,rfl⟩;rw[←hW7] at b2 hq2 hr;have hI:∀u12 u14:Value,OfI w A c n l 0 false false undef undef u12 u14 W7.drew:=fun u12 u14=>⟨zaa b2 1,hq2,hr,fun e=>(by cases e),fun e=>(by cases e),fun e=>(by cases e),fun e=>absurd e (by omega),fun e=>absurd e (by omega)⟩;have HIN:=Hh hI;have HW7:=Hh hW7;have HN:=Hh h;have HNL:=Hh hn;have HG:=Hh hg;have t1:((n:Int)==0)=false:=beq_eq_false_iff_ne.2 (by omega);clear h hn hg b1 b2 hq hr hq2 hW7 hI;dsimp only[xb0,bw0,Xb.obj,List.length_nil] at HW7;go_enter Tryz.func122,Tryz.ntmps122;go_wp2_with fail;rw[←HW7.out];go_cut [4,5] from 11 to 14 (fun s4 s5 wx=>BoC w l n s4 s5 wx)
 case first =>
  have hI0:=HIN.out;refine zbV ?_;refine wp_region_held (S:=fun w'=>w'.cell? ⟨w.heap.size,0,none⟩=some (.slice A n c)) (by kernel_rfl) ?_;have hs0:=zab (HIN.out undef undef).x;have hIN:=HIN.out undef undef;obtain⟨W8,hW8⟩:∃W:World,W=W7.drew:=⟨_,rfl⟩;rw[←hW8] at hs0 hIN;change wpAnyH _ _ _ _ _ _ _ _ W7.drew;rw[←hW8];clear hW8 hI0;refine wpAnyH_take (i:=0) (v:=.agg #[.slice A n c]) rfl (by kernel_rfl) (by kernel_rfl) (by kernel_rfl) (fun _ _ _ h=>h) (Or.inl ⟨by rfl,?_⟩) hs0 ?_
  ·intro w' s1_;go_simp
  simp only[Act.put,List.setIfInBounds_toArray,List.set_cons_zero,List.set_cons_succ];refine wpAnyH_take (i:=2) (v:=.agg #[.slice A n c]) rfl (by kernel_rfl) (by kernel_rfl) (by kernel_rfl) (fun _ _ _ h=>h) (Or.inl ⟨by rfl,?_⟩) hs0 ?_
  ·intro w' s1_;go_simp
  simp only[Act.put,List.setIfInBounds_toArray,List.set_cons_zero,List.set_cons_succ];refine zht (T:=Nat × Bool × Bool) (fun x=>(2-x.1)+(if x.2.1 then 0 else 1)+(if x.2.2 then 0 else 1)) (fun x=>#[true,decide (1≤x.1),true,decide (2≤x.1),x.2.1,x.2.2,false,false]) (fun x=>(2-x.1)+(if x.2.1 then 0 else 1)+(if x.2.2 then 0 else 1)+2) (fun x a W=>x.1≤2∧∃v4 v5 t12 t14,a={ tmps:=#[.agg #[.slice A n c],.pointer (some ⟨w.heap.size,0,none⟩),.pointer (some ⟨w.heap.size+1,0,none⟩),.bool false,v4,v5,.pointer (some ⟨w.heap.size,0,none⟩),.slice A n c,.int .i64 (n:Int),.bool false,undef,.agg #[.slice A n c],t12,.agg #[.slice A n c],t14,undef,undef,undef,undef,undef,undef,undef,undef,undef],defers:=[] }∧OfI w A c n l x.1 x.2.1 x.2.2 v4 v5 t12 t14 W) ?_ (0,false,false) _ _ (by kernel_rfl) (by kernel_rfl) _ _ ⟨by decide,undef,undef,undef,undef,rfl,hIN⟩;rintro⟨j,p,q⟩ IH a W ⟨hj,v4,v5,t12,t14,rfl,hI⟩;clear hs0 hIN;dsimp only at hj hI ⊢;obtain rfl|rfl|rfl:j=0∨j=1∨j=2:=by omega
  ·cases p
   ·cases q
    ·refine wpAnyH_ready (rs:=[1,4,5]) (by kernel_rfl) (by simp) (AllReadyH.cons rfl (fun K hK=>?_) (AllReadyH.cons rfl (fun K hK=>?_) (AllReadyH.cons rfl (fun K hK=>?_) (AllReadyH.nil))))
     ·go_simp;refine(zfV n c A l _ (HN.out.below hI.b) HNL.out h0 hn9 HG.out).mono ?_;rintro e w2 hr;have hr2:=hr;obtain⟨u,v,X,Y,rfl,-⟩:=hr2;have hN:=hI.call1 hr;dsimp only;refine hK.out _ _ (zab hN.x) (fun _=>?_);exact IH (1,false,false) _ _ (by decide) (by kernel_rfl) (by kernel_rfl) _ _ ⟨by decide,_,_,_,_,rfl,hN⟩
     ·go_simp;refine hK.out _ _ (zab hI.allocP.x) (fun _=>?_);exact IH (0,true,false) _ _ (by decide) (by kernel_rfl) (by kernel_rfl) _ _ ⟨by decide,_,_,_,_,rfl,hI.allocP⟩
     ·go_simp;refine hK.out _ _ (zab hI.allocQ.x) (fun _=>?_);exact IH (0,false,true) _ _ (by decide) (by kernel_rfl) (by kernel_rfl) _ _ ⟨by decide,_,_,_,_,rfl,hI.allocQ⟩
    ·refine Rd2 1 4 (fun K hK=>?_) fun K hK=>?_
     ·go_simp;refine(zfV n c A l _ (HN.out.below hI.b) HNL.out h0 hn9 HG.out).mono ?_;rintro e w2 hr;have hr2:=hr;obtain⟨u,v,X,Y,rfl,-⟩:=hr2;have hN:=hI.call1 hr;dsimp only;refine hK.out _ _ (zab hN.x) (fun _=>?_);exact IH (1,false,true) _ _ (by decide) (by kernel_rfl) (by kernel_rfl) _ _ ⟨by decide,_,_,_,_,rfl,hN⟩
     ·go_simp;refine hK.out _ _ (zab hI.allocP.x) (fun _=>?_);exact IH (0,true,true) _ _ (by decide) (by kernel_rfl) (by kernel_rfl) _ _ ⟨by decide,_,_,_,_,rfl,hI.allocP⟩
   ·cases q
    ·refine Rd2 1 5 (fun K hK=>?_) fun K hK=>?_
     ·go_simp;refine(zfV n c A l _ (HN.out.below hI.b) HNL.out h0 hn9 HG.out).mono ?_;rintro e w2 hr;have hr2:=hr;obtain⟨u,v,X,Y,rfl,-⟩:=hr2;have hN:=hI.call1 hr;dsimp only;refine hK.out _ _ (zab hN.x) (fun _=>?_);exact IH (1,true,false) _ _ (by decide) (by kernel_rfl) (by kernel_rfl) _ _ ⟨by decide,_,_,_,_,rfl,hN⟩
     ·go_simp;refine hK.out _ _ (zab hI.allocQ.x) (fun _=>?_);exact IH (0,true,true) _ _ (by decide) (by kernel_rfl) (by kernel_rfl) _ _ ⟨by decide,_,_,_,_,rfl,hI.allocQ⟩
    ·refine Rd1 1 fun K hK=>?_
     ·go_simp;refine(zfV n c A l _ (HN.out.below hI.b) HNL.out h0 hn9 HG.out).mono ?_;rintro e w2 hr;have hr2:=hr;obtain⟨u,v,X,Y,rfl,-⟩:=hr2;have hN:=hI.call1 hr;dsimp only;refine hK.out _ _ (zab hN.x) (fun _=>?_);exact IH (1,true,true) _ _ (by decide) (by kernel_rfl) (by kernel_rfl) _ _ ⟨by decide,_,_,_,_,rfl,hN⟩
  ·cases p
   ·cases q
    ·refine wpAnyH_ready (rs:=[3,4,5]) (by kernel_rfl) (by simp) (AllReadyH.cons rfl (fun K hK=>?_) (AllReadyH.cons rfl (fun K hK=>?_) (AllReadyH.cons rfl (fun K hK=>?_) (AllReadyH.nil))))
     ·go_simp;refine(zfW n c A l _ (HN.out.below hI.b) HNL.out h0 hn9 HG.out).mono ?_;rintro e w2 hr;have hr2:=hr;obtain⟨u,v,X,Y,rfl,-⟩:=hr2;have hN:=hI.call2 hr;dsimp only;refine hK.out _ _ (zab hN.x) (fun _=>?_);exact IH (2,false,false) _ _ (by decide) (by kernel_rfl) (by kernel_rfl) _ _ ⟨by decide,_,_,_,_,rfl,hN⟩
     ·go_simp;refine hK.out _ _ (zab hI.allocP.x) (fun _=>?_);exact IH (1,true,false) _ _ (by decide) (by kernel_rfl) (by kernel_rfl) _ _ ⟨by decide,_,_,_,_,rfl,hI.allocP⟩
     ·go_simp;refine hK.out _ _ (zab hI.allocQ.x) (fun _=>?_);exact IH (1,false,true) _ _ (by decide) (by kernel_rfl) (by kernel_rfl) _ _ ⟨by decide,_,_,_,_,rfl,hI.allocQ⟩
    ·refine Rd2 3 4 (fun K hK=>?_) fun K hK=>?_
     ·go_simp;refine(zfW n c A l _ (HN.out.below hI.b) HNL.out h0 hn9 HG.out).mono ?_;rintro e w2 hr;have hr2:=hr;obtain⟨u,v,X,Y,rfl,-⟩:=hr2;have hN:=hI.call2 hr;dsimp only;refine hK.out _ _ (zab hN.x) (fun _=>?_);exact IH (2,false,true) _ _ (by decide) (by kernel_rfl) (by kernel_rfl) _ _ ⟨by decide,_,_,_,_,rfl,hN⟩
     ·go_simp;refine hK.out _ _ (zab hI.allocP.x) (fun _=>?_);exact IH (1,true,true) _ _ (by decide) (by kernel_rfl) (by kernel_rfl) _ _ ⟨by decide,_,_,_,_,rfl,hI.allocP⟩
   ·cases q
    ·refine Rd2 3 5 (fun K hK=>?_) fun K hK=>?_
     ·go_simp;refine(zfW n c A l _ (HN.out.below hI.b) HNL.out h0 hn9 HG.out).mono ?_;rintro e w2 hr;have hr2:=hr;obtain⟨u,v,X,Y,rfl,-⟩:=hr2;have hN:=hI.call2 hr;dsimp only;refine hK.out _ _ (zab hN.x) (fun _=>?_);exact IH (2,true,false) _ _ (by decide) (by kernel_rfl) (by kernel_rfl) _ _ ⟨by decide,_,_,_,_,rfl,hN⟩
     ·go_simp;refine hK.out _ _ (zab hI.allocQ.x) (fun _=>?_);exact IH (1,true,true) _ _ (by decide) (by kernel_rfl) (by kernel_rfl) _ _ ⟨by decide,_,_,_,_,rfl,hI.allocQ⟩
    ·refine Rd1 3 fun K hK=>?_
     ·go_simp;refine(zfW n c A l _ (HN.out.below hI.b) HNL.out h0 hn9 HG.out).mono ?_;rintro e w2 hr;have hr2:=hr;obtain⟨u,v,X,Y,rfl,-⟩:=hr2;have hN:=hI.call2 hr;dsimp only;refine hK.out _ _ (zab hN.x) (fun _=>?_);exact IH (2,true,true) _ _ (by decide) (by kernel_rfl) (by kernel_rfl) _ _ ⟨by decide,_,_,_,_,rfl,hN⟩
  ·cases p
   ·cases q
    ·refine Rd2 4 5 (fun K hK=>?_) fun K hK=>?_
     ·go_simp;refine hK.out _ _ (zab hI.allocP.x) (fun _=>?_);exact IH (2,true,false) _ _ (by decide) (by kernel_rfl) (by kernel_rfl) _ _ ⟨by decide,_,_,_,_,rfl,hI.allocP⟩
     ·go_simp;refine hK.out _ _ (zab hI.allocQ.x) (fun _=>?_);exact IH (2,false,true) _ _ (by decide) (by kernel_rfl) (by kernel_rfl) _ _ ⟨by decide,_,_,_,_,rfl,hI.allocQ⟩
    ·refine Rd1 4 fun K hK=>?_
     ·go_simp;refine hK.out _ _ (zab hI.allocP.x) (fun _=>?_);exact IH (2,true,true) _ _ (by decide) (by kernel_rfl) (by kernel_rfl) _ _ ⟨by decide,_,_,_,_,rfl,hI.allocP⟩
   ·cases q
    ·refine Rd1 5 fun K hK=>?_
     ·go_simp;refine hK.out _ _ (zab hI.allocQ.x) (fun _=>?_);exact IH (2,true,true) _ _ (by decide) (by kernel_rfl) (by kernel_rfl) _ _ ⟨by decide,_,_,_,_,rfl,hI.allocQ⟩
    ·have hS:=zab hI.x;obtain⟨g4,g5,u,v,x,y,rfl,rfl,rfl,rfl,m1,m2,m3,m4,z4,z5,hC⟩:=hI.last;have HC:=Hh hC;have HS:=Hh hS;have Z5:=Hh z5;obtain⟨d0,d1,d2,d3,f0,f1,f2,f3⟩:=zal z4;clear hI hC hS IH z4 z5;refine Rd1 6 fun K hK=>?_;go_simp;have hS2:=(World.cell?_of_block (w:=W) (a:=⟨w.heap.size,0,none⟩) (zdb m3 u v)).trans HS.out;refine hK.out _ _ hS2 (fun _=>?_);clear hK K d0 d1 d2 d3 f0 f1 f2 f3;obtain⟨d0,d1,d2,d3,f0,f1,f2,f3⟩:=zal Z5.out;change wpAnyH _ _ _ _ _ _ _ _ (put2 W g4 u v);generalize put2 W g4 u v=W9 at *;refine Rd1 7 fun K hK=>?_;go_simp;have hS3:=(World.cell?_of_block (w:=W9) (a:=⟨w.heap.size,0,none⟩) (zdb m4 x y)).trans hS2;refine hK.out _ _ hS3 (fun _=>?_);clear hK K d0 d1 d2 d3 f0 f1 f2 f3 hS2 hS3;refine wpAnyH_done (by kernel_rfl) ?_ _;unfold zcJ;go_wp2_with fail;go_meet;exact HC.out
 case rest =>
  obtain⟨g4,g5,u,v,x,y,X,Y,Z,T,rfl,rfl,k4,k5,ru,rv,rx,ry,se,sf,hb,hr,hg4,hg5⟩:=hcut;have hd:Below wc.heap.size wc (wc.drewN 1):=zaa (Below.refl _ _) 1;have RU:=Hh (ru.next hd);have RV:=Hh (rv.next hd);have RX:=Hh (rx.next hd);have RY:=Hh (ry.next hd);have SE:=Hh se;have SF:=Hh sf;have K4:=Hh k4;have K5:=Hh k5;have HB:=Hh hb;have HR:=Hh hr;have m9:=zaM (show 1328≤1329 by omega);have lw:=Hh (show(-p2 1329≤X∧X≤p2 1329)∧-p2 1329≤Y∧Y≤p2 1329 by have:=se.low HG.out HNL.out h0;omega);have lh:=Hh (show(-p2 1329≤Z∧Z≤p2 1329)∧-p2 1329≤T∧T≤p2 1329 by have:=sf.low HG.out HNL.out h0;omega);clear m9;obtain⟨d0,d1,d2,d3,-⟩:=zal k4;obtain⟨e0,e1,e2,e3,-⟩:=zal k5;have q0:True:=trivial;clear ru rv rx ry se sf hb hr k4 k5 hd;go_wp2_with fail;refine wp_region_noPanic ?_;refine wp_region_held (S:=fun w'=>w'.cell? ⟨g4,0,none⟩=some (.bool u.s)∧w'.cell? ⟨g4,1,none⟩=some (.slice u.a u.xs.length u.c)∧w'.cell? ⟨g4,2,none⟩=some (.bool v.s)∧w'.cell? ⟨g4,3,none⟩=some (.slice v.a v.xs.length v.c)∧w'.cell? ⟨g5,0,none⟩=some (.bool x.s)∧w'.cell? ⟨g5,1,none⟩=some (.slice x.a x.xs.length x.c)∧w'.cell? ⟨g5,2,none⟩=some (.bool y.s)∧w'.cell? ⟨g5,3,none⟩=some (.slice y.a y.xs.length y.c)) (by kernel_rfl) ?_;clear d0 d1 d2 d3 e0 e1 e2 e3;obtain⟨W0,hW0⟩:∃W0:World,W0=wc.drewN 1:=⟨_,rfl⟩;have HD0:=Hh (show Below wc.heap.size wc W0 by rw[hW0];exact zaa (Below.refl _ _) 1);change wpAnyH _ _ _ _ _ _ _ _ (wc.drewN 1);change W0=wc.drewN 1 at hW0;rw[←hW0] at RU RV RX RY ⊢;clear hW0;obtain⟨d0,d1,d2,d3,-⟩:=zal ((HD0.out.block _ (zag K4.out)).trans K4.out);obtain⟨e0,e1,e2,e3,-⟩:=zal ((HD0.out.block _ (zag K5.out)).trans K5.out);have hS0:=(And.intro d0 (And.intro d1 (And.intro d2 (And.intro d3 (And.intro e0 (And.intro e1 (And.intro e2 e3)))))));clear d0 d1 d2 d3 e0 e1 e2 e3;refine Tk1 (v:=?_) 0 hS0 ?_ ?_;rotate_left
  ·rintro w' ⟨_,_,_,_,_,_,_,_⟩;go_simp;first|done|with_reducible rfl|rfl
  simp only[Act.put,LA];refine Tk1 (v:=?_) 1 hS0 ?_ ?_;rotate_left
  ·rintro w' ⟨_,_,_,_,_,_,_,_⟩;go_simp;first|done|with_reducible rfl|rfl
  simp only[Act.put,LA];refine Tk1 (v:=?_) 2 hS0 ?_ ?_;rotate_left
  ·rintro w' ⟨_,_,_,_,_,_,_,_⟩;go_simp;first|done|with_reducible rfl|rfl
  simp only[Act.put,LA];refine Tk1 (v:=?_) 3 hS0 ?_ ?_;rotate_left
  ·rintro w' ⟨_,_,_,_,_,_,_,_⟩;go_simp;first|done|with_reducible rfl|rfl
  simp only[Act.put,LA];refine Tk1 (v:=?_) 4 hS0 ?_ ?_;rotate_left
  ·rintro w' ⟨_,_,_,_,_,_,_,_⟩;go_simp;first|done|with_reducible rfl|rfl
  simp only[Act.put,LA];refine Tk1 (v:=?_) 6 hS0 ?_ ?_;rotate_left
  ·rintro w' ⟨_,_,_,_,_,_,_,_⟩;go_simp;first|done|with_reducible rfl|rfl
  simp only[Act.put,LA];refine Rd1 5 fun K hK=>?_;go_simp;refine(zpM u v X Y _ RU.out RV.out lw.out.1 lw.out.2).mono ?_;rintro e w1 hr1;obtain⟨s,rfl,rs,b1⟩:=zam hr1;dsimp only;have RS:=Hh rs;have RX:=Hh (RX.out.next b1);have RY:=Hh (RY.out.next b1);have RU:=Hh (RU.out.next b1);have RV:=Hh (RV.out.next b1);have B1:=Hh (HD0.out.trans (b1.mono HD0.out.size));obtain⟨d0,d1,d2,d3,-⟩:=zal ((B1.out.block _ (zag K4.out)).trans K4.out);obtain⟨e0,e1,e2,e3,-⟩:=zal ((B1.out.block _ (zag K5.out)).trans K5.out);have hS1:=(And.intro d0 (And.intro d1 (And.intro d2 (And.intro d3 (And.intro e0 (And.intro e1 (And.intro e2 e3)))))));refine hK.out _ _ hS1 (fun _=>?_);clear hK K hr1 rs b1 d0 d1 d2 d3 e0 e1 e2 e3;refine Rd1 7 fun K hK=>?_;go_simp;refine(zpM x y Z T _ RX.out RY.out lh.out.1 lh.out.2).mono ?_;rintro e w2 hr2;obtain⟨t,rfl,rt,b2⟩:=zam hr2;dsimp only;have RT:=Hh rt;have RS:=Hh (RS.out.next b2);have RX:=Hh (RX.out.next b2);have RU:=Hh (RU.out.next b2);have B2:=Hh (B1.out.trans (b2.mono B1.out.size));obtain⟨d0,d1,d2,d3,-⟩:=zal ((B2.out.block _ (zag K4.out)).trans K4.out);obtain⟨e0,e1,e2,e3,-⟩:=zal ((B2.out.block _ (zag K5.out)).trans K5.out);have hS2:=(And.intro d0 (And.intro d1 (And.intro d2 (And.intro d3 (And.intro e0 (And.intro e1 (And.intro e2 e3)))))));refine hK.out _ _ hS2 (fun _=>?_);clear hK K hr2 rt b2 d0 d1 d2 d3 e0 e1 e2 e3;refine Tk1 (v:=?_) 8 hS2 ?_ ?_;rotate_left
  ·rintro w' ⟨_,_,_,_,_,_,_,_⟩;go_simp;first|done|with_reducible rfl|rfl
  simp only[Act.put,LA];have R9:=Hh ((B2.out.block _ (zag HR.out)).trans HR.out);obtain⟨z0,z1,z2,z3,z4,z5,z6,z7⟩:=Xb.cells R9.out;obtain⟨y0,y1,y2,y3,y4,y5,y6,y7⟩:=Xb.cellsF R9.out;refine Rd1 9 fun K hK=>?_;go_simp;have k4:=(zfX (W:=w2) (g:=w.heap.size+1) (show g4≠w.heap.size+1 by omega) ⟨u,x,s,t⟩).trans ((B2.out.block _ (zag K4.out)).trans K4.out);have k5:=(zfX (W:=w2) (g:=w.heap.size+1) (show g5≠w.heap.size+1 by omega) ⟨u,x,s,t⟩).trans ((B2.out.block _ (zag K5.out)).trans K5.out);obtain⟨d0,d1,d2,d3,-⟩:=zal k4;obtain⟨e0,e1,e2,e3,-⟩:=zal k5;have hS3:=(And.intro d0 (And.intro d1 (And.intro d2 (And.intro d3 (And.intro e0 (And.intro e1 (And.intro e2 e3)))))));refine hK.out _ _ hS3 (fun _=>?_);clear hK K d0 d1 d2 d3 e0 e1 e2 e3 z0 z1 z2 z3 z4 z5 z6 z7 y0 y1 y2 y3 y4 y5 y6 y7 k4 k5;change wpAnyH _ _ _ _ _ _ _ _ (putX w2 (w.heap.size+1) ⟨u,x,s,t⟩);have RF:=Hh (zpY R9.out ⟨u,x,s,t⟩);have HX:=Hh (show Xb.R ⟨u,x,s,t⟩ (putX w2 (w.heap.size+1) ⟨u,x,s,t⟩) X Z (Y-X+1) (T-Z+1) from⟨RU.out.putX R9.out _,RX.out.putX R9.out _,RS.out.putX R9.out _,RT.out.putX R9.out _⟩);have BF:=Hh (zhV (HB.out.trans (B2.out.mono HB.out.size)) (g:=w.heap.size+1) (Nat.le_succ _) ⟨u,x,s,t⟩);generalize putX w2 (w.heap.size+1) ⟨u,x,s,t⟩=W9 at *;refine Tk1 (v:=?_) 10 hS3 ?_ ?_;rotate_left
  ·rintro w' ⟨_,_,_,_,_,_,_,_⟩;go_simp;first|done|with_reducible rfl|rfl
  simp only[Act.put,LA];refine wpAnyH_done (by kernel_rfl) ?_ _;refine NoPanic.normal ?_;go_wp2_with fail;obtain⟨z0,z1,z2,z3,z4,z5,z6,z7⟩:=Xb.cells RF.out;refine bodyPost_ret (v:=.tuple #[(⟨u,x,s,t⟩:Xb).val,.bool true]) (by simp[results,Tryz.results122,go_sem,z0,z1,z2,z3,z4,z5,z6,z7]) rfl ?_;have sh:∀{b:Bw} {V:Int} {W:World},b.R W V→-p2 1330≤V→V≤p2 1330→b.xs.length≤50000:=fun r h1 h2=>Nat.le_trans (zaY r h1 h2) (by omega);have hp:p2 1330=p2 1329+p2 1329:=zau 1329;have hp1:=zar 1329;have bt:=zsp SE.out SF.out;have l1:=SE.out.low HG.out HNL.out h0;have l2:=SF.out.low HG.out HNL.out h0;have hp2:p2 1329=p2 1328+p2 1328:=zau 1328;have hp3:=zar 1328;refine⟨⟨u,x,s,t⟩,X,Z,Y-X+1,T-Z+1,true,rfl,HX.out,⟨sh HX.out.x (by omega) (by omega),sh HX.out.y (by omega) (by omega),sh HX.out.w (by omega) (by omega),sh HX.out.h (by omega) (by omega)⟩,BF.out,.inr ⟨h0,rfl,bt⟩⟩
theorem zqa (n c:Nat)(A:Option Addr)(l:List Nd)(w:World)(h:Ns w A c l)(hn:l.length=n)(hn9:n≤900000)(hg:zaq l) :
  Calls Tryz.prog 122 #[.agg #[.slice A n c]] w (znH l n w):=by
 by_cases h0:0<n
 ·exact zsr n c A l w h hn h0 hn9 hg
 ·have e0:n=0:=by omega
  subst e0;have e1:l=[]:=List.length_eq_zero_iff.1 hn;subst e1;exact zsq A c w
def BxV (l:List Nd)(n:Nat)(ok:Bool)(X Y V H:Int):Prop:=(n=0∧ok=false∧X=0∧Y=0∧V=0∧H=0)∨(0<n∧ok=true∧BoxT (den l n) (at_ l (n-1)).lv.toNat X Y V H)
theorem BxV.one {l:List Nd}{n:Nat}{ok ok':Bool}{X Y V H X' Y' V' H':Int}(h:BxV l n ok X Y V H)(k:BxV l n ok' X' Y' V' H'):ok=ok'∧X=X'∧Y=Y'∧V=V'∧H=H':=by
 rcases h with⟨h0,rfl,h1,h2,h3,h4⟩|⟨h0,rfl,h1⟩
 ·rcases k with⟨k0,rfl,k1,k2,k3,k4⟩|⟨k0,rfl,k1⟩
  ·exact⟨rfl,by omega,by omega,by omega,by omega⟩
  ·omega
 ·rcases k with⟨k0,rfl,k1,k2,k3,k4⟩|⟨k0,rfl,k1⟩
  ·omega
  ·exact⟨rfl,h1.one k1⟩
def zvC (l:List Nd)(n:Nat)(most:Int)(w:World)(e:Ending)(w':World):Prop :=
 ∃(X Y V H:Int) (ok:Bool),e=.returned (.bool (decide (V≤most)&&decide (H≤most)))∧BxV l n ok X Y V H∧Below w.heap.size w w'
theorem ziX (a b:Int):decide (ordI a b≤0)=decide (a≤b):=by
 refine decide_eq_decide.2 ?_;unfold ordI;split
 ·constructor <;> intro <;> omega
 ·split
  ·constructor <;> intro <;> omega
  ·constructor <;> intro <;> omega
theorem zcO (n c:Nat)(A:Option Addr)(l:List Nd)(most:Int)(w:World)(h:Ns w A c l)(hn:l.length=n)(hn9:n≤900000)(hg:zaq l)(hm : -9223372036854775808≤most∧most≤9223372036854775807) :
  Calls Tryz.prog 121 #[.agg #[.slice A n c],.int .i64 most] w (zvC l n most w):=by
 have hcap:=h.cap;rw[hn] at hcap;have hB:=(Below.refl w.heap.size w).alloc (Nat.le_refl _) (.cells #[.slice A n c] 28);have HB:=Hh hB;have HN:=Hh (h.below hB);have HNL:=Hh hn;have HG:=Hh hg;have q0:True:=trivial;clear h hn hg hB;go_enter Tryz.func121,Tryz.ntmps121;go_upto_region 3 with(first
  | (have _t:=q0;go_at_call 122;clear _t;go_loud (refine(zqa n c A l _ HN.out HNL.out hn9 HG.out).mono ?_;rintro e w1 ⟨u,X,Y,V,H,ok,rfl,ru,su,b1,bv⟩;have RU:=Hh ru;have SU:=Hh su;have BV:=Hh (show BxV l n ok X Y V H from bv);have B1:=Hh (HB.out.trans (b1.mono HB.out.size));clear ru su b1 bv;have q1:=q0;clear q0))
  | (have _t:=q1;go_at_call 159;clear _t;go_loud (refine(zkA most _ hm.1 hm.2).mono ?_;rintro e w2 h2;obtain⟨o,rfl,ro,b2⟩:=zam h2;have hb3:=(Below.refl w1.heap.size w1).alloc (Nat.le_refl _) u.obj;have hb4:=hb3.trans (b2.mono hb3.size);have hb5:=hb4.alloc hb4.size o.obj;have KX:=Hh (((b2.alloc b2.size o.obj).block w1.heap.size (by simp)).trans (heap_alloc_new w1 u.obj));have RU:=Hh (RU.out.next hb5);have RO:=Hh ro.box;have B2:=Hh (B1.out.trans (hb5.mono B1.out.size));clear h2 ro b2 hb3 hb4 hb5;have q2:=q1;clear q1)))
 obtain⟨c0,c1,c2,c3,c4,c5,c6,c7⟩:=Xb.cells KX.out;have o0:=RO.out.c0;have o1:=RO.out.c1;have lo:o.xs.length≤50:=zaY RO.out.r (by have:=zaM (show 64≤1330 by omega);have:p2 64=18446744073709551616:=rfl;omega) (by have:=zaM (show 64≤1330 by omega);have:p2 64=18446744073709551616:=rfl;omega);have lw:=SU.out.w;have lh:=SU.out.h;generalize hW:w2.alloc o.obj=W at *;obtain⟨g5,hg5⟩:∃g,g=w1.heap.size:=⟨_,rfl⟩;obtain⟨g7,hg7⟩:∃g,g=w2.heap.size:=⟨_,rfl⟩;rw[←hg5] at KX c0 c1 c2 c3 c4 c5 c6 c7 ⊢;rw[←hg7] at RO o0 o1 ⊢;clear hg5 hg7 hW;obtain⟨r1,hr1⟩:∃r,r=ordI V most:=⟨_,rfl⟩;obtain⟨r2,hr2⟩:∃r,r=ordI H most:=⟨_,rfl⟩;have e1:=ziX V most;have e2:=ziX H most;rw[←hr1] at e1;rw[←hr2] at e2;have HR1:=Hh hr1;have HR2:=Hh hr2;have HE1:=Hh e1;have HE2:=Hh e2;clear hr1 hr2 e1 e2 c0 c1 c2 c3;have CMP1:∀W1,Below W.heap.size W W1→Calls Tryz.prog 160 #[.agg #[.bool u.w.s,.slice u.w.a u.w.xs.length u.w.c],.agg #[.bool o.s,.slice o.a o.xs.length o.c]] W1 fun e w'=>e=.returned (.int .i64 r1)∧Below W1.heap.size W1 w':=fun W1 b=>by
  have h9:=zlI u.w.s o.s u.w.a o.a u.w.c o.c u.w.xs o.xs W1 (RU.out.w.us.below b) (RO.out.r.us.below b) (by omega) (by omega) RU.out.w.cn RO.out.r.cn
  rwa [RU.out.w.v,RO.out.r.v,←HR1.out] at h9
 have CMP2:∀W1,Below W.heap.size W W1→Calls Tryz.prog 160 #[.agg #[.bool u.h.s,.slice u.h.a u.h.xs.length u.h.c],.agg #[.bool o.s,.slice o.a o.xs.length o.c]] W1 fun e w'=>e=.returned (.int .i64 r2)∧Below W1.heap.size W1 w':=fun W1 b=>by
  have h9:=zlI u.h.s o.s u.h.a o.a u.h.c o.c u.h.xs o.xs W1 (RU.out.h.us.below b) (RO.out.r.us.below b) (by omega) (by omega) RU.out.h.cn RO.out.r.cn
  rwa [RU.out.h.v,RO.out.r.v,←HR2.out] at h9
 have HC1:=Hh CMP1;have HC2:=Hh CMP2;clear CMP1 CMP2;by_cases hV:V≤most
 ·have t1:decide (r1≤0)=true:=by rw[HE1.out];exact decide_eq_true hV
  have HV:=Hh hV;clear hV;go_wp2_with (first
   | (have _t:=q2;go_at_call 160;clear _t;go_loud (refine(HC1.out _ (Below.refl _ _)).mono ?_;rintro e w3 ⟨rfl,b3⟩;have B3:=Hh b3;have c6:=(b3.cell (p:=⟨g5,6,none⟩) (zag KX.out)).trans c6;have c7:=(b3.cell (p:=⟨g5,7,none⟩) (zag KX.out)).trans c7;have o0:=(b3.cell (p:=⟨g7,0,none⟩) RO.out.lt).trans o0;have o1:=(b3.cell (p:=⟨g7,1,none⟩) RO.out.lt).trans o1;clear b3;have q3:=q2;clear q2))
   | (have _t:=q3;go_at_call 160;clear _t;go_loud (refine(HC2.out _ B3.out).mono ?_;rintro e w4 ⟨rfl,b4⟩;have B4:=Hh (B3.out.trans (b4.mono B3.out.size));clear b4;have q4:=q3;clear q3)))
  go_ret;exact⟨X,Y,V,H,ok,by rw[decide_eq_true (show V≤most by have:=HV.out;omega),Bool.true_and];first|rfl|(rw[←HE2.out];rfl),BV.out,B2.out.trans (B4.out.mono B2.out.size)⟩
 ·have t1:decide (r1≤0)=false:=by rw[HE1.out];exact decide_eq_false hV
  have HV:=Hh hV;clear hV;go_wp2_with (first
   | (have _t:=q2;go_at_call 160;clear _t;go_loud (refine(HC1.out _ (Below.refl _ _)).mono ?_;rintro e w3 ⟨rfl,b3⟩;have B3:=Hh b3;clear b3;have q3:=q2;clear q2)))
  go_ret;exact⟨X,Y,V,H,ok,by rw[decide_eq_false (show ¬ V≤most by have:=HV.out;omega),Bool.false_and];rfl,BV.out,B2.out.trans (B3.out.mono B2.out.size)⟩
def znI (ax e j:Nat):Nat:=if ax=0 then e+2*j else 2*e+j
def kk (ax e j:Nat):Nat:=if j<2 then znI ax e j else znI ax (1-e) (j-2)
theorem zvD {ax e j:Nat}(he:e≤1)(hj:j<4):kk ax e j<4:=by
 unfold kk znI;split <;> split <;> omega
theorem zvE {ax e j:Nat}(he:e≤1)(hj:j<4):bitK ax (kk ax e j)=if j<2 then e else 1-e:=by
 unfold kk znI bitK;split <;> split <;> omega
theorem zts {ax e:Nat}(he:e≤1){k:Nat}(hk:k<4):∃j,j<4∧kk ax e j=k:=by
 by_cases ha:ax=0
 ·refine⟨if k%2=e then k / 2 else k / 2+2,?_,?_⟩
  ·split <;> omega
  ·unfold kk znI;rw[if_pos ha,if_pos ha];split <;> split <;> omega
 ·refine⟨if k / 2=e then k%2 else k%2+2,?_,?_⟩
  ·split <;> omega
  ·unfold kk znI;rw[if_neg ha,if_neg ha];split <;> split <;> omega
theorem zvF {ax e j m:Nat}(he:e≤1)(hj:j<4):pen ax e m (kk ax e j)=if j<2 then 0 else p2 m:=by
 unfold pen;rw[zvE he hj];split
 ·rw[if_pos rfl]
 ·rw[if_neg (by omega)]
structure EdJ (ax e:Nat)(x:Nd)(d:Nat→Int)(j:Nat)(fd:Bool)(m:Int):Prop where
 no:fd=false→∀t,t<j→x.kid (kk ax e t)=0
 le:fd=true→∀t,t<j→x.kid (kk ax e t)≠0→m≤d (kk ax e t)
 ex:fd=true→∃t,t<j∧x.kid (kk ax e t)≠0∧m=d (kk ax e t)
theorem EdJ.start (ax e:Nat)(x:Nd)(d:Nat→Int)(m:Int):EdJ ax e x d 0 false m:=⟨fun _ t ht=>by omega,fun h=>(by cases h),fun h=>(by cases h)⟩
theorem EdJ.skip {ax e:Nat}{x:Nd}{d:Nat→Int}{j:Nat}{fd:Bool}{m:Int}(h:EdJ ax e x d j fd m)(h0:x.kid (kk ax e j)=0):EdJ ax e x d (j+1) fd m :=
 ⟨fun hf t ht=>by
  by_cases e:t=j
  ·rw[e];exact h0
  ·exact h.no hf t (by omega),fun hf t ht hk=>by
  by_cases e:t=j
  ·rw[e] at hk;exact absurd h0 hk
  ·exact h.le hf t (by omega) hk,fun hf=>by
  obtain⟨t,h1,h2⟩:=h.ex hf;exact⟨t,by omega,h2⟩⟩
theorem EdJ.first {ax e:Nat}{x:Nd}{d:Nat→Int}{j:Nat}{m:Int}(h:EdJ ax e x d j false m)(h0:x.kid (kk ax e j)≠0):EdJ ax e x d (j+1) true (d (kk ax e j)) :=
 ⟨fun hf=>(by cases hf),fun _ t ht hk=>by
  by_cases e:t=j
  ·rw[e];exact Int.le_refl _
  ·exact absurd (h.no rfl t (by omega)) hk,fun _=>⟨j,by omega,h0,rfl⟩⟩
theorem EdJ.less {ax e:Nat}{x:Nd}{d:Nat→Int}{j:Nat}{m:Int}(h:EdJ ax e x d j true m)(h0:x.kid (kk ax e j)≠0)(hl:d (kk ax e j)<m):EdJ ax e x d (j+1) true (d (kk ax e j)) :=
 ⟨fun hf=>(by cases hf),fun _ t ht hk=>by
  by_cases e:t=j
  ·rw[e];exact Int.le_refl _
  ·have:=h.le rfl t (by omega) hk;omega,fun _=>⟨j,by omega,h0,rfl⟩⟩
theorem EdJ.more {ax e:Nat}{x:Nd}{d:Nat→Int}{j:Nat}{m:Int}(h:EdJ ax e x d j true m)(hl:¬ d (kk ax e j)<m):EdJ ax e x d (j+1) true m :=
 ⟨fun hf=>(by cases hf),fun _ t ht hk=>by
  by_cases e:t=j
  ·rw[e];omega
  ·exact h.le rfl t (by omega) hk,fun _=>by
  obtain⟨t,h1,h2⟩:=h.ex rfl;exact⟨t,by omega,h2⟩⟩
def dF (l:List Nd)(ax e i m:Nat)(F:Nat→Int)(k:Nat):Int:=(if m=0 then 0 else F (((at_ l i).kid k).toNat-1))+pen ax e m k
theorem zut {l:List Nd}(hg:zaq l){i:Nat}(hi:i<l.length){m:Nat}(hm:(at_ l i).lv=(m:Int)+1):∃k,k<4∧(at_ l i).kid k≠0:=by
 have hw:=zbv hg.1 i hi;rw[hm] at hw;obtain⟨x,y,h⟩:=zaO _ (m+1) hw (hg.2 i hi).1;obtain⟨k,hk,h2⟩:=zgO hw h;exact⟨k,hk,(zhS hg hi hk).2 (zbd h2)⟩
theorem EdJ.done {l:List Nd}(hg:zaq l){ax e i m:Nat}(he:e≤1)(hi:i<l.length)(hm:(at_ l i).lv=(m:Int)+1){F:Nat→Int}(hF:∀j,j<i→IsE l ax e j (F j)){fd:Bool}{D:Int}(h:EdJ ax e (at_ l i) (dF l ax e i m F) 4 fd D) :
  fd=true∧IsE l ax e i D:=by
 obtain⟨k0,hk0,hne0⟩:=zut hg hi hm;have hfd:fd=true:=by
  cases fd with
  | true=>rfl
  | false =>
   obtain⟨j,hj,e1⟩:=zts (ax:=ax) he hk0;exact absurd (by rw[←e1];exact h.no rfl j hj) hne0
 refine⟨hfd,zpO hg hi he hm (fun k=>if m=0 then 0 else F (((at_ l i).kid k).toNat-1)) (fun k hk hne=>?_) (fun k hk hne=>?_) ?_⟩
 ·by_cases hm0:m=0
  ·exact .inl ⟨hm0,if_pos hm0⟩
  ·refine .inr ⟨hm0,?_⟩;show IsE l ax e _ (if m=0 then 0 else _);rw[if_neg hm0];rcases zaA (by omega) (zaj (zai.1 hg.1 i hi) hk) with h1|⟨p,h1,h2,h3⟩
   ·exact absurd h1 hne
   ·have:=List.length_take_le i l;exact hF _ (by omega)
 ·obtain⟨j,hj,e1⟩:=zts (ax:=ax) he hk;have:=h.le hfd j hj (by rw[e1];exact hne);rw[e1] at this;exact this
 ·obtain⟨t,ht,h1,h2⟩:=h.ex hfd;exact⟨_,zvD he ht,h1,h2⟩
theorem IsE.low {l:List Nd}(hg:zaq l){ax e i m:Nat}(hi:i<l.length)(hm:(at_ l i).lv=(m:Int)){D:Int}(h:IsE l ax e i D):0≤D∧D<p2 m:=by
 have hw:=zbv hg.1 i hi;rw[hm] at hw;unfold IsE at h;rw[hm,Int.toNat_natCast] at h;exact h.in_ (fun t ht=>by have ht':t=den l (i+1):=ht;rw[ht'];exact hw)
structure EgW (w:World)(n:Nat)(l:List Nd)(ax e gr:Nat)(L:List Gv)(F:Nat→Int)(i:Nat)(fd:Bool)(m:Int)(W:World):Prop where
 b:Below w.heap.size w W
 nb:W.heap[w.heap.size]?=some (.cells #[.int .i64 (kk ax e 0:Nat),.int .i64 (kk ax e 1:Nat)] 158)
 fb:W.heap[w.heap.size+1]?=some (.cells #[.int .i64 (kk ax e 2:Nat),.int .i64 (kk ax e 3:Nat)] 158)
 row:OwnG W (w.heap.size+2) gr (n+1) L
 fine:∀j,j<i→GIn W (gat L (j+1)) (F j)∧IsE l ax e j (F j)
 now:fd=true→GIn W (gat L (i+1)) m
section
variable {w:World} {n:Nat} {l:List Nd} {ax e gr:Nat} {L:List Gv} {F:Nat→Int} {i:Nat} {fd:Bool} {m:Int} {W W1:World}
theorem EgW.next (h:EgW w n l ax e gr L F i fd m W)(k:Below W.heap.size W W1):EgW w n l ax e gr L F i fd m W1 :=
 ⟨h.b.trans (k.mono h.b.size),(k.block _ (Array.getElem?_eq_some_iff.1 h.nb).1).trans h.nb,(k.block _ (Array.getElem?_eq_some_iff.1 h.fb).1).trans h.fb,h.row.next k,fun j hj=>⟨(h.fine j hj).1.next k,(h.fine j hj).2⟩,fun e=>(h.now e).next k⟩
theorem EgW.put (h:EgW w n l ax e gr L F i fd m W)(hi:i<n){s:Bool}{B:Option Addr}{d:Nat}{xs:List Nat}{m2:Int}(hu:Us W B d xs)(hc:zaE s xs)(hv:ival s xs=m2) :
  EgW w n l ax e gr (L.set (i+1) ⟨s,B,d,xs⟩) F i true m2 ((W.setCell ⟨gr,(i+1)*2,none⟩ (.bool s)).setCell ⟨gr,(i+1)*2+1,none⟩ (.slice B xs.length d)):=by
 have hg:=ziU W gr ((i+1)*2) ((i+1)*2+1) (.bool s) (.slice B xs.length d);obtain⟨r1,r2,r3,r4,r5⟩:=h.row.row;have hz:=h.b.size;have l1:=(Array.getElem?_eq_some_iff.1 h.nb).1;have l2:=(Array.getElem?_eq_some_iff.1 h.fb).1;refine⟨h.b.grown hg h.b.size (fun q e=>by cases e;omega),(hg.block _ l1 (fun e=>by have:=Option.some.inj e;omega)).trans h.nb,(hg.block _ l2 (fun e=>by have:=Option.some.inj e;omega)).trans h.fb,h.row.put (by omega) ⟨s,B,d,xs⟩,fun j hj=>?_,fun _=>?_⟩
 ·rw[znu (by omega)];exact⟨(h.fine j hj).1.over r5 hg,(h.fine j hj).2⟩
 ·rw[zjK (by rw[h.row.1];omega)];exact⟨zcF hu (fun q h1 h2=>hg.block q h1 (fun e=>h2 (by cases e;rfl))) hg.size (zdS hu r5),hc,hv⟩
theorem EgW.step (h:EgW w n l ax e gr L F i true m W)(hE:IsE l ax e i m):EgW w n l ax e gr L (fun t=>if t=i then m else F t) (i+1) false 0 W :=
 ⟨h.b,h.nb,h.fb,h.row,fun j hj=>by
  by_cases e:j=i
  ·subst e;simp only[if_pos];exact⟨h.now rfl,hE⟩
  ·simp only[if_neg e];exact h.fine j (by omega),fun e=>(by cases e)⟩
end
end Go.Proofs.YtfjajpnfjjdnpaaGreatDoor
