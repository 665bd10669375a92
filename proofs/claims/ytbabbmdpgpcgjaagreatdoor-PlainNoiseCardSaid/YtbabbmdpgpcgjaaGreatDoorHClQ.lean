import Derived.Test.YtbabbmdpgpcgjaaGreatDoorHClSo

set_option linter.unusedVariables false
set_option linter.unusedSimpArgs false
set_option maxRecDepth 100000
set_option maxHeartbeats 6400000
namespace Go.Proofs.YtbabbmdpgpcgjaaGreatDoor
open Go.RowKit Nds Num Go.Sort
theorem zgj {a b:Int}:ordI a b<0↔a<b:=by
 unfold ordI;split
 ·constructor <;> intro <;> omega
 ·split
  ·constructor <;> intro <;> omega
  ·constructor <;> intro <;> omega
theorem zcS {a b:Int}:ordI a b=0↔a=b:=by
 unfold ordI;split
 ·constructor <;> intro <;> omega
 ·split
  ·constructor <;> intro <;> omega
  ·constructor <;> intro <;> omega
theorem ztv {v u:Cv}:ordC v u<0↔ltC v.cl u.cl:=by
 unfold ordC ltC Cv.cl;dsimp only;by_cases h:ordI (ival v.sy v.ys) (ival u.sy u.ys)=0
 ·rw[if_pos h,zgj];have:=zcS.1 h;omega
 ·rw[if_neg h,zgj];have:ival v.sy v.ys≠ival u.sy u.ys:=fun e=>h (zcS.2 e);omega
theorem zeU {v u:Cv}:ordC v u=0↔v.cl.x=u.cl.x∧v.cl.y=u.cl.y:=by
 unfold ordC Cv.cl;dsimp only;by_cases h:ordI (ival v.sy v.ys) (ival u.sy u.ys)=0
 ·rw[if_pos h,zcS];have:=zcS.1 h;omega
 ·rw[if_neg h,zcS];have:ival v.sy v.ys≠ival u.sy u.ys:=fun e=>h (zcS.2 e);omega
def ordK (l:List Cv)(i j:Nat):Int:=if ordC (cat l i) (cat l j)=0 then cmpZ (i:Int) (j:Int) else ordC (cat l i) (cat l j)
def ltK (l:List Cv)(i j:Nat):Prop:=ltC (cat l i).cl (cat l j).cl∨((cat l i).cl.x=(cat l j).cl.x∧(cat l i).cl.y=(cat l j).cl.y∧i<j)
theorem zcB {l:List Cv}{i j:Nat}:ordK l i j<0↔ltK l i j:=by
 unfold ordK ltK;by_cases h:ordC (cat l i) (cat l j)=0
 ·rw[if_pos h];have h1:=zeU.1 h;have h2:¬ ltC (cat l i).cl (cat l j).cl:=fun e=>zdt e h1;have h3:cmpZ (i:Int) (j:Int)<0↔i<j:=by
   unfold cmpZ;split
   ·constructor <;> intro <;> omega
   ·split <;> (constructor <;> intro <;> omega)
  rw[h3];constructor
  ·intro e;exact .inr ⟨h1.1,h1.2,e⟩
  ·rintro(e|e)
   ·exact absurd e h2
   ·exact e.2.2
 ·rw[if_neg h,ztv];constructor
  ·intro e;exact .inl e
  ·rintro(e|e)
   ·exact e
   ·exact absurd (zeU.2 ⟨e.1,e.2.1⟩) h
theorem zwd (l:List Cv)(i:Nat):¬ ltK l i i:=by
 unfold ltK ltC;omega
theorem zqw {l:List Cv}{i j k:Nat}(h:ltK l i j)(h2:ltK l j k):ltK l i k:=by
 unfold ltK ltC at *;omega
theorem zwe (l:List Cv){i j:Nat}(h:i≠j):ltK l i j∨ltK l j i:=by
 unfold ltK ltC;omega
theorem zoj {l:List Cv}{i j k:Nat}(h:¬ ltK l i j)(h2:¬ ltK l j k):¬ ltK l i k:=by
 unfold ltK ltC at *;omega
theorem zok (B:Nat)(A:Option Addr)(c n:Nat)(l:List Cv)(w:World)(hB:w.cell? ⟨B,0,none⟩=some (.slice A n c))(h:Cs w A c l)(hn:l.length=n)(hR:∀v∈l,CvR v)(i j:Nat)(hi:i<n)(hj:j<n) :
  Calls Tryz.prog 134 #[.int .i64 (i:Int),.int .i64 (j:Int),.pointer (some ⟨B,0,none⟩)] w fun e w'=>e=.returned (.int .i64 (ordK l i j))∧Gro w w':=by
 have hcap:=h.cap;rw[hn] at hcap;obtain⟨b,off,rfl,hb,hc⟩:=h.at_ (by omega)
 obtain⟨c1,c2,c3,c4,c5⟩:=hc i (by omega);obtain⟨d1,d2,d3,d4,d5⟩:=hc j (by omega);have hv:=h.1 _ (zaZ (i:=i) (by omega));have hu:=h.1 _ (zaZ (i:=j) (by omega));have rv:=hR _ (zaZ (i:=i) (by omega));have ru:=hR _ (zaZ (i:=j) (by omega));obtain⟨R,hRR⟩:∃R,R=ordK l i j:=⟨_,rfl⟩;rw[←hRR];unfold ordK at hRR;generalize cat l i=v at *;generalize cat l j=u at *;have hv1:=hv.1.cap;have hv2:=hv.2.1.cap;have hu1:=hu.1.cap;have hu2:=hu.2.1.cap;obtain⟨r,hr⟩:∃r,r=ordC v u:=⟨_,rfl⟩;rw[←hr] at hRR;have HRR:=Hh hRR;have HR:=Hh hr;have HV:=Hh hv;have HU:=Hh hu;have i1:(0:Int)≤(i:Int):=by omega
 have i2:(i:Int)<(n:Int):=by omega
 have j1:(0:Int)≤(j:Int):=by omega
 have j2:(j:Int)<(n:Int):=by omega
 have HLB:=Hh (zag hB);have HBB:=Hh hB;have HLb:=Hh hb;have HCV:=Hh (show CvAt w b (off+i*5) v from⟨c1,c2,c3,c4,c5⟩);have HCU:=Hh (show CvAt w b (off+j*5) u from⟨d1,d2,d3,d4,d5⟩);clear h hc hRR hr hv hu hR;have st:Gro w w.drew:=(Gro.refl w).drewN 1;by_cases hz:r=0
 ·subst hz;have HZ:=HR;go_enter Tryz.func134,Tryz.ntmps134;go_wp2_with fail;go_region_held3 (fun w'=>w'.cell? ⟨B,0,none⟩=some (.slice (some ⟨b,off,none⟩) n c)∧(w'.cell? ⟨b,off+i*5,none⟩=some (.bool v.sx)∧w'.cell? ⟨b,off+i*5+1,none⟩=some (.slice v.ax v.xs.length v.cx)∧w'.cell? ⟨b,off+i*5+2,none⟩=some (.bool v.sy)∧w'.cell? ⟨b,off+i*5+3,none⟩=some (.slice v.ay v.ys.length v.cy)∧w'.cell? ⟨b,off+i*5+4,none⟩=some (.int .u8 v.st))∧(w'.cell? ⟨b,off+j*5,none⟩=some (.bool u.sx)∧w'.cell? ⟨b,off+j*5+1,none⟩=some (.slice u.ax u.xs.length u.cx)∧w'.cell? ⟨b,off+j*5+2,none⟩=some (.bool u.sy)∧w'.cell? ⟨b,off+j*5+3,none⟩=some (.slice u.ay u.ys.length u.cy)∧w'.cell? ⟨b,off+j*5+4,none⟩=some (.int .u8 u.st)))
   (first|go_keep|exact⟨k0,⟨e1,e2,e3,e4,e5⟩,⟨f1,f2,f3,f4,f5⟩⟩)
   (first|(go_at_call 135;refine(zdj v u _ (HV.out.below st.b) (HU.out.below st.b) rv ru).mono ?_;rintro e w1 ⟨rfl,g1⟩;rw[←HR.out];have k0:=((st.trans g1).b.cell (p:=⟨B,0,none⟩) HLB.out).trans HBB.out;obtain⟨e1,e2,e3,e4,e5⟩:=HCV.out.below ((st.trans g1).b.block b HLb.out);obtain⟨f1,f2,f3,f4,f5⟩:=HCU.out.below ((st.trans g1).b.block b HLb.out)))
  all_goals
   go_wp2_with (go_at_call 136;refine(zfn _ _ _).mono ?_;rintro e w2 ⟨rfl,rfl⟩);go_ret;refine⟨?_,st.trans g1⟩;rw[HRR.out]
   (first|rw[if_pos rfl]|rw[if_pos trivial])
   rfl
 ·have t1:(r != 0)=true:=by rw[bne_iff_ne];exact hz
  have HZ:=Hh hz;clear hz;go_enter Tryz.func134,Tryz.ntmps134;go_wp2_with fail;go_region_held3 (fun w'=>w'.cell? ⟨B,0,none⟩=some (.slice (some ⟨b,off,none⟩) n c)∧(w'.cell? ⟨b,off+i*5,none⟩=some (.bool v.sx)∧w'.cell? ⟨b,off+i*5+1,none⟩=some (.slice v.ax v.xs.length v.cx)∧w'.cell? ⟨b,off+i*5+2,none⟩=some (.bool v.sy)∧w'.cell? ⟨b,off+i*5+3,none⟩=some (.slice v.ay v.ys.length v.cy)∧w'.cell? ⟨b,off+i*5+4,none⟩=some (.int .u8 v.st))∧(w'.cell? ⟨b,off+j*5,none⟩=some (.bool u.sx)∧w'.cell? ⟨b,off+j*5+1,none⟩=some (.slice u.ax u.xs.length u.cx)∧w'.cell? ⟨b,off+j*5+2,none⟩=some (.bool u.sy)∧w'.cell? ⟨b,off+j*5+3,none⟩=some (.slice u.ay u.ys.length u.cy)∧w'.cell? ⟨b,off+j*5+4,none⟩=some (.int .u8 u.st)))
   (first|go_keep|exact⟨k0,⟨e1,e2,e3,e4,e5⟩,⟨f1,f2,f3,f4,f5⟩⟩)
   (first|(go_at_call 135;refine(zdj v u _ (HV.out.below st.b) (HU.out.below st.b) rv ru).mono ?_;rintro e w1 ⟨rfl,g1⟩;rw[←HR.out];have k0:=((st.trans g1).b.cell (p:=⟨B,0,none⟩) HLB.out).trans HBB.out;obtain⟨e1,e2,e3,e4,e5⟩:=HCV.out.below ((st.trans g1).b.block b HLb.out);obtain⟨f1,f2,f3,f4,f5⟩:=HCU.out.below ((st.trans g1).b.block b HLb.out)))
  all_goals
   go_wp2_with fail;go_ret;refine⟨?_,st.trans g1⟩;rw[HRR.out,if_neg HZ.out];rfl
theorem zwf {w w':World}{blk:Nat}{A:Option Addr}{c:Nat}{l:List Cv}(h:Cs w A c l)(hk:∀k,k<w.heap.size→k≠blk→w'.heap[k]?=w.heap[k]?)(hs:w.heap.size≤w'.heap.size)(ha:∀a,A=some a→a.block≠blk)(ho:∀v∈l,Off blk v):Cs w' A c l :=
 ⟨fun v hv=>zdk (h.1 v hv) hk hs (ho v hv),h.2.1,h.2.2.1,fun hn=>by
  obtain⟨b,off,e,hlt,hc⟩:=h.2.2.2 hn;exact⟨b,off,e,Nat.lt_of_lt_of_le hlt hs,fun i hi=>(hc i hi).below (hk b hlt (ha _ e))⟩⟩
theorem zfM {α:Type}[Inhabited α](enc:α→Value)(w:World)(blk off m:Nat)(dk:Array α)(os:Array Obj):w.grownBy (sortWorld enc w blk off m dk os) (some blk):=by
 have hs:(putRow enc (Sort.ahead w m) blk off dk).heap.size=w.heap.size:=by
  unfold putRow mapBlock Sort.ahead;simp
 refine⟨rfl,rfl,rfl,?_,fun j hj hne=>?_⟩
 ·unfold sortWorld;rw[size_grow,hs];omega
 ·show((putRow enc (Sort.ahead w m) blk off dk).heap++os)[j]?=_;rw[Array.getElem?_append,if_pos (by rw[hs];exact hj)];unfold putRow mapBlock Sort.ahead;simp only[Array.getElem?_modify];rw[if_neg (fun e=>hne (by rw[e]))]
def encP {n:Nat}(x:Fin n):Value:=.int .i64 (x.val:Int)
theorem zqx (B:Nat)(A:Option Addr)(c n:Nat)(l:List Cv)(w:World)(hB:w.cell? ⟨B,0,none⟩=some (.slice A n c))(h:Cs w A c l)(hn:l.length=n)(hR:∀v∈l,CvR v)
  (blk cap:Nat) (h0:0<n) (hn9:n≤1000000) (hb:blk<w.heap.size) (hBb:B≠blk) (hA:∀a,A=some a→a.block≠blk) (ho:∀v∈l,Off blk v)
  (hc:∀i,i<n→w.cell? ⟨blk,i,none⟩=some (.int .i64 (i:Int))) (hf:∀o,w.frozen? ⟨blk,o,none⟩=false) :
  Calls Tryz.prog 133 #[.slice (some ⟨blk,0,none⟩) n cap,.func (.func 134) #[] #[.pointer (some ⟨B,0,none⟩)]] w fun e w' =>
   e=.returned (.tuple #[])∧∃o:List Nat,o.Perm (List.range n)∧o.Pairwise (ltK l)∧(∀i,i<n→w'.cell? ⟨blk,i,none⟩=some (.int .i64 ((o[i]?.getD 0:Nat):Int)))∧w.grownBy w' (some blk):=by
 obtain⟨k,rfl⟩:∃k,n=k+1:=⟨n-1,by omega⟩;obtain⟨d,hd⟩:∃d:Array (Fin (k+1)),d=(List.finRange (k+1)).toArray:=⟨_,rfl⟩;have hds:d.size=k+1:=by rw[hd];simp
 have hdi:∀i (hi:i<k+1),d[i]! = ⟨i,hi⟩:=fun i hi=>by
  subst hd;rw[getElem!_pos _ i (by simpa using hi)];simp
 have hH:Holds (encP (n:=k+1)) w blk 0 d:=by
  intro j hj;rw[hds] at hj;rw[hdi j hj,Nat.zero_add];exact⟨hc j hj,hf j⟩
 have eg:∀args w,(callFunc 134 args).run Tryz.prog w=.ok (.enter 134 args) w:=enters_of Tryz.func134 (by kernel_rfl) rfl;have hcmp:CmpLays1 Tryz.prog 134 #[.pointer (some ⟨B,0,none⟩)] (encP (n:=k+1)) (fun x y=>ordK l x.val y.val) blk 0 d.size w:=by
  intro m os dk hdk x y;have hg:=zfM (encP (n:=k+1)) w blk 0 m dk os;have hk:∀j,j<w.heap.size→j≠blk→(sortWorld (encP (n:=k+1)) w blk 0 m dk os).heap[j]?=w.heap[j]?:=fun j h1 h2=>hg.block j h1 (fun e=>h2 (by cases e;rfl));have:=zok B A c (k+1) l (sortWorld (encP (n:=k+1)) w blk 0 m dk os) ((World.cell?_of_block (a:=⟨B,0,none⟩) (hk B (zag hB) hBb)).trans hB) (zwf h hk hg.size hA ho) hn hR x.val y.val x.isLt y.isLt;exact this.mono fun e w' ⟨he,hG⟩=>⟨he,zjk hG⟩
 have hS:SWO (ltOf fun x y:Fin (k+1)=>ordK l x.val y.val):=by
  refine⟨fun x=>?_,fun x y z h1 h2=>?_,fun x y z h1 h2=>?_⟩
  ·exact decide_eq_false (fun e=>zwd l x.val (zcB.1 e))
  ·exact decide_eq_true (zcB.2 (zqw (zcB.1 (of_decide_eq_true h1)) (zcB.1 (of_decide_eq_true h2))))
  ·exact decide_eq_false (fun e=>zoj (fun e=>of_decide_eq_false h1 (zcB.2 e)) (fun e=>of_decide_eq_false h2 (zcB.2 e)) (zcB.1 e))
 have hcon:=Any.slices_SortFunc Tryz.sortI (encP (n:=k+1)) (fun _=>rfl) (fun x y:Fin (k+1)=>ordK l x.val y.val) hS 134 #[.pointer (some ⟨B,0,none⟩)] blk 0 cap d w eg hcmp hH hb (by omega);rw[hds] at hcon;change Calls Tryz.prog 133 _ _ _ at hcon;refine hcon.mono ?_;rintro e w' ⟨rfl,d',m,os,hp,hs,rfl⟩;obtain⟨hsz,-,hperm⟩:=hp;have hd':d'.size=k+1:=by rw[hsz,hds]
 have ex:∀(a:Array (Fin (k+1))) (m:Nat),m=a.size→a.extract 0 m=a:=fun a m e=>by subst e;exact Array.extract_size
 rw[ex d' _ hd'.symm,ex d _ hds.symm] at hperm;have hpm:(d'.toList.map Fin.val).Perm (List.range (k+1)):=by
  have:=hperm.map Fin.val;rw[hd,List.toList_toArray] at this
  rwa [show(List.finRange (k+1)).map Fin.val=List.range (k+1) from List.ext_getElem (by simp) (by simp)] at this
 refine⟨rfl,d'.toList.map Fin.val,hpm,?_,?_,zfM (encP (n:=k+1)) w blk 0 m d' os⟩
 ·refine List.pairwise_map.2 (List.pairwise_iff_getElem.2 fun i j hi hj hij=>?_);have hi':i<d'.size:=by rwa [Array.length_toList] at hi
  have hj':j<d'.size:=by rwa [Array.length_toList] at hj
  have hs1:=hs i j (Nat.zero_le _) hij (by omega);rw[getElem!_pos d' i hi',getElem!_pos d' j hj'] at hs1;have hne:(d'[i]).val≠(d'[j]).val:=fun e=>by
   have hnd:(d'.toList.map Fin.val).Nodup:=hpm.nodup_iff.2 List.nodup_range;have h1:=(List.nodup_iff_pairwise_ne.1 hnd);have h2:=List.pairwise_iff_getElem.1 h1 i j (by simpa using hi') (by simpa using hj') hij;exact h2 (by simpa using e)
  rw[Array.getElem_toList,Array.getElem_toList];rcases zwe l hne with h1|h1
  ·exact h1
  ·exact absurd (zcB.2 h1) (of_decide_eq_false hs1)
 ·intro i hi;have hh:=holds_sortWorld (encP (n:=k+1)) w blk 0 m d d' os hb hH (by rw[hsz]) i (by omega);rw[Nat.zero_add] at hh;rw[hh.1];show some (Value.int .i64 ((d'[i]!).val:Int))=_;rw[getElem!_pos d' i (by omega),List.getElem?_map,List.getElem?_eq_getElem (by rw[Array.length_toList];omega),Array.getElem_toList];rfl
end Go.Proofs.YtbabbmdpgpcgjaaGreatDoor

namespace Go.Proofs.YtbabbmdpgpcgjaaGreatDoor
open Nds
def atP (c:Cl)(x y:Int):Prop:=c.x=x∧c.y=y
instance (c:Cl) (x y:Int):Decidable (atP c x y):=by unfold atP;infer_instance
def zol (f:Nat→Cl):Nat→Int→Int→Int
 | 0,_,_=>0
 | n+1,x,y=>if atP (f n) x y then (f n).s else zol f n x y
theorem zew (f:Nat→Cl)(x y:Int):∀n,((∀k,k<n→¬ atP (f k) x y)∧zol f n x y=0)∨∃k,k<n∧atP (f k) x y∧(∀j,k<j→j<n→¬ atP (f j) x y)∧zol f n x y=(f k).s
 | 0=>.inl ⟨fun k hk=>absurd hk (Nat.not_lt_zero k),rfl⟩
 | n+1=>by
  by_cases h:atP (f n) x y
  ·exact .inr ⟨n,Nat.lt_succ_self n,h,fun j h1 h2=>by omega,if_pos h⟩
  ·rcases zew f x y n with⟨h1,h2⟩|⟨k,h1,h2,h3,h4⟩
   ·refine .inl ⟨fun k hk=>?_,(if_neg h).trans h2⟩;rcases Nat.lt_or_ge k n with hn|hn
    ·exact h1 k hn
    ·rw[show k=n by omega];exact h
   ·refine .inr ⟨k,by omega,h2,fun j hj hn=>?_,(if_neg h).trans h4⟩;rcases Nat.lt_or_ge j n with hjn|hjn
    ·exact h3 j hj hjn
    ·rw[show j=n by omega];exact h
theorem zhc (l:List Cv)(x y:Int):∀k,k≤l.length→zfu ((l.take k).map Cv.cl) x y=zol (fun i=>(cat l i).cl) k x y
 | 0,_=>by simp[zfu,zol]
 | k+1,hk=>by
  rw[←List.take_append_getElem (l:=l) (i:=k) (by omega),List.map_append,List.map_cons,List.map_nil,zfv,zhc l x y k (by omega),←zcr (by omega)];rfl
def zby (l:List Cv)(o:List Nat)(i:Nat):Bool := !(decide (i+1<o.length)&&(ordC (cat l (o[i]?.getD 0)) (cat l (o[i+1]?.getD 0))==0))&&(cat l (o[i]?.getD 0)).st != 0
def zbp (l:List Cv)(o:List Nat)(k:Nat):List Cv:=((List.range k).filter (zby l o)).map fun i=>cat l (o[i]?.getD 0)
theorem zcs (l:List Cv)(o:List Nat)(k:Nat):zbp l o (k+1)=if zby l o k=true then zbp l o k++[cat l (o[k]?.getD 0)] else zbp l o k:=by
 unfold zbp;rw[List.range_succ,List.filter_append];by_cases h:zby l o k=true
 ·rw[if_pos h,List.filter_cons,if_pos h,List.filter_nil,List.map_append];rfl
 ·rw[if_neg h,List.filter_cons,if_neg h,List.filter_nil,List.append_nil]
theorem zom {l:List Cv}{o:List Nat}{n k:Nat}(hl:l.length=n)(ho:o.Perm (List.range n))(hk:k≤n){v:Cv}(h:v∈zbp l o k):v∈l:=by
 unfold zbp at h;obtain⟨i,hi,rfl⟩:=List.mem_map.1 h;have hi2:=List.mem_range.1 (List.mem_filter.1 hi).1;have hlen:o.length=n:=by rw[ho.length_eq,List.length_range]
 have hoi:o[i]?.getD 0∈o:=by rw[List.getElem?_eq_getElem (by omega)];exact List.getElem_mem _
 have:=List.mem_range.1 (ho.mem_iff.1 hoi);exact zaZ (by omega)
theorem zqy {l:List Cv}{o:List Nat}{k:Nat}{v:Cv}(h:v∈zbp l o k):v.st≠0:=by
 unfold zbp at h;obtain⟨i,hi,rfl⟩:=List.mem_map.1 h;have:=(List.mem_filter.1 hi).2;unfold zby at this;simp only[Bool.and_eq_true,bne_iff_ne] at this;exact this.2
theorem zfw (l:List Cv)(o:List Nat)(k:Nat):(zbp l o k).length≤k:=by
 unfold zbp;rw[List.length_map];exact Nat.le_trans (List.length_filter_le _ _) (by rw[List.length_range];exact Nat.le_refl _)
theorem zon {l:List Cv}{o:List Nat}{n:Nat}(hl:l.length=n)(ho:o.Perm (List.range n))(hs:o.Pairwise (ltK l)):(zbp l o n).map Cv.cl=zaR (l.map Cv.cl):=by
 have hlen:o.length=n:=by rw[ho.length_eq,List.length_range]
 have hg:∀i,i<n→o[i]?.getD 0<n:=fun i hi=>by
  have hoi:o[i]?.getD 0∈o:=by rw[List.getElem?_eq_getElem (by omega)];exact List.getElem_mem _
  exact List.mem_range.1 (ho.mem_iff.1 hoi)
 have hlt:∀i j,i<j→j<n→ltK l (o[i]?.getD 0) (o[j]?.getD 0):=fun i j hij hj=>by
  rw[List.getElem?_eq_getElem (show i<o.length by omega),List.getElem?_eq_getElem (show j<o.length by omega)];exact List.pairwise_iff_getElem.1 hs i j _ _ hij
 have hex:∀k,k<n→∃i,i<n∧o[i]?.getD 0=k:=fun k hk=>by
  obtain⟨i,hi,he⟩:=List.getElem_of_mem (ho.mem_iff.2 (List.mem_range.2 hk));exact⟨i,by omega,by rw[List.getElem?_eq_getElem hi];exact he⟩
 -- what has a later one of its place isn't kept
 have hover:∀i j,i<j→j<n→(cat l (o[i]?.getD 0)).cl.x=(cat l (o[j]?.getD 0)).cl.x→(cat l (o[i]?.getD 0)).cl.y=(cat l (o[j]?.getD 0)).cl.y→zby l o i=false:=fun i j hij hj hx hy=>by
  have h1:=hlt i (i+1) (by omega) (by omega);have h2:ordC (cat l (o[i]?.getD 0)) (cat l (o[i+1]?.getD 0))=0:=by
   rw[zeU];rcases Nat.lt_or_ge (i+1) j with h3|h3
   ·have h4:=hlt (i+1) j h3 hj;unfold ltK ltC at h1 h4;omega
   ·rw[show i+1=j by omega];exact⟨hx,hy⟩
  unfold zby;rw[decide_eq_true (show i+1<o.length by omega),h2];rfl
 have hsrt:Srt ((zbp l o n).map Cv.cl):=by
  unfold zbp Srt;rw[List.map_map,List.pairwise_map];have h0:(List.range n).Pairwise (fun a b=>a<b∧b<n):=List.pairwise_iff_getElem.2 fun i j hi hj hij=>by
   rw[List.getElem_range,List.getElem_range];rw[List.length_range] at hj;exact⟨hij,hj⟩
  refine(h0.filter (zby l o)).imp_of_mem ?_
  ·rintro a b ha hb ⟨hab,hbn⟩;have hka:=(List.mem_filter.1 ha).2;have h1:=hlt a b hab hbn;rcases h1 with h1|⟨h1,h2,-⟩
   ·exact h1
   ·rw[hover a b hab hbn h1 h2] at hka;cases hka
 have hst:∀c∈(zbp l o n).map Cv.cl,c.s≠0:=fun c hc=>by
  obtain⟨v,hv,rfl⟩:=List.mem_map.1 hc;have:=zqy hv;show((v.st:Nat):Int)≠0;omega
 obtain⟨f1,f2,f3⟩:=zbx (l.map Cv.cl);refine zed hsrt f1 hst (fun c hc=>(f3 c hc).1) fun x y=>?_;rw[f2];have hLI:zfu (l.map Cv.cl) x y=zol (fun i=>(cat l i).cl) n x y:=by
  have:=zhc l x y n (by omega)
  rwa [List.take_of_length_le (by omega)] at this
 rw[hLI];by_cases hin:∃i,i<n∧zby l o i=true∧atP (cat l (o[i]?.getD 0)).cl x y
 ·obtain⟨i,hi,hk,hp⟩:=hin;have hm:(cat l (o[i]?.getD 0)).cl∈(zbp l o n).map Cv.cl:=List.mem_map.2 ⟨_,List.mem_map.2 ⟨i,List.mem_filter.2 ⟨List.mem_range.2 hi,hk⟩,rfl⟩,rfl⟩;have e1:=zgY hsrt hm;rw[hp.1,hp.2] at e1;rw[e1];rcases zew (fun i=>(cat l i).cl) x y n with⟨h1,_⟩|⟨k,h1,h2,h3,h4⟩
  ·exact absurd hp (h1 _ (hg i hi))
  ·rw[h4];obtain⟨j,hj,hjk⟩:=hex k h1;have hij:i=j:=by
    rcases Nat.lt_trichotomy i j with h5|h5|h5
    ·have:=hover i j h5 hj (by rw[hjk];rw[hp.1];exact h2.1.symm) (by rw[hjk];rw[hp.2];exact h2.2.symm);rw[this] at hk;cases hk
    ·exact h5
    ·have h6:=hlt j i h5 hi;rw[hjk] at h6;have h7:k<o[i]?.getD 0:=by
      have q1:=hp.1;have q2:=hp.2;have q3:(cat l k).cl.x=x:=h2.1;have q4:(cat l k).cl.y=y:=h2.2;unfold ltK ltC at h6;omega
     exact absurd hp (h3 _ h7 (hg i hi))
   rw[hij,hjk]
 ·have e1:lk ((zbp l o n).map Cv.cl) x y=0:=zbr fun c hc hcp=>by
   obtain⟨v,hv,rfl⟩:=List.mem_map.1 hc;unfold zbp at hv;obtain⟨i,hi,rfl⟩:=List.mem_map.1 hv;obtain⟨hi1,hi2⟩:=List.mem_filter.1 hi;exact hin ⟨i,List.mem_range.1 hi1,hi2,hcp⟩
  rw[e1];rcases zew (fun i=>(cat l i).cl) x y n with⟨_,h1⟩|⟨k,h1,h2,h3,h4⟩
  ·exact h1.symm
  ·rw[h4];obtain⟨i,hi,hik⟩:=hex k h1;by_cases hk:zby l o i=true
   ·exact absurd ⟨i,hi,hk,by rw[hik];exact h2⟩ hin
   ·have hno:(decide (i+1<o.length)&&(ordC (cat l (o[i]?.getD 0)) (cat l (o[i+1]?.getD 0))==0))=false:=by
     cases hq:(decide (i+1<o.length)&&(ordC (cat l (o[i]?.getD 0)) (cat l (o[i+1]?.getD 0))==0))
     ·rfl
     ·simp only[Bool.and_eq_true,decide_eq_true_eq,beq_iff_eq] at hq;obtain⟨q1,q2⟩:=hq;have q3:=zeU.1 q2;have q4:=hlt i (i+1) (by omega) (by omega);rw[hik] at q3 q4;have q5:k<o[i+1]?.getD 0:=by unfold ltK ltC at q4;omega
      refine absurd ?_ (h3 _ q5 (hg _ (by omega)));exact⟨q3.1.symm.trans h2.1,q3.2.symm.trans h2.2⟩
    unfold zby at hk;rw[hno,hik] at hk;simp only[Bool.not_false,Bool.true_and,bne_iff_ne,ne_eq,Decidable.not_not] at hk;show(0:Int)=((cat l k).st:Int);omega
end Go.Proofs.YtbabbmdpgpcgjaaGreatDoor

namespace Go.Proofs.YtbabbmdpgpcgjaaGreatDoor
open Go.RowKit Nds
theorem Tryz.infoC:(Tryz.prog.info? 123).map (fun i=>(i.zero,i.size,i.bytes))=some (some (cvv cv0),5,72):=by kernel_rfl
def cvcs (l:List Cv):List Value:=l.flatMap encC
theorem zjl (l:List Cv):(cvcs l).length=l.length*5:=by
 unfold cvcs
 induction l with
 | nil=>rfl
 | cons x l ih =>
  rw[List.flatMap_cons,List.length_append,ih,List.length_cons];show 5+_=_;omega
theorem ztw (l m:List Cv):cvcs (l++m)=cvcs l++cvcs m:=by
 unfold cvcs;rw[List.flatMap_append]
theorem zlU:∀(l:List Cv) (i j:Nat),i<l.length→j<5→(cvcs l)[i*5+j]?=(encC (cat l i))[j]?
 | [],i,_,hi,_=>by simp at hi
 | x :: l,0,j,_,hj=>by
  show(encC x++cvcs l)[0*5+j]?=_;rw[List.getElem?_append_left (by show _<5;omega),show 0*5+j=j by omega];rfl
 | x :: l,i+1,j,hi,hj=>by
  show(encC x++cvcs l)[(i+1)*5+j]?=_;rw[List.getElem?_append_right (by show 5≤_;omega),show(i+1)*5+j-(encC x).length=i*5+j by show _-5=_;omega,zlU l i j (by simpa using hi) hj];rfl
theorem ztx (l:List Cv):∀u∈cvcs l,u.oneCell'=true:=fun u hu=>by
 obtain⟨x,_,hx⟩:=List.mem_flatMap.1 hu;exact zno x u hx
def OwnC (w:World)(base:Nat)(v:Value)(l:List Cv):Prop:=w.ownsRow base 123 5 v l.length (cvcs l)
theorem OwnC.shape {w:World}{base:Nat}{v:Value}{l:List Cv}(h:OwnC w base v l) :
  ∃A c,v=.slice A l.length c∧l.length≤c∧c≤maxLen∧(A=none→c=0∧l=[])∧(∀a,A=some a→∃g,a=⟨g,0,none⟩∧base≤g∧g<w.heap.size∧(∀i,i<l.length→CvAt w g (i*5) (cat l i))∧∀o,w.frozen? ⟨g,o,none⟩=false):=by
 rcases h.2 with⟨h',hn⟩|⟨g,cap,cur,h',hb,hg,hnc,hcm,hcs,htake⟩
 ·refine⟨none,0,by rw[h',hn],by omega,by simp[maxLen],fun _=>⟨rfl,List.eq_nil_of_length_eq_zero hn⟩,(fun a e=>by cases e)⟩
 ·refine⟨some ⟨g,0,none⟩,cap,h',hnc,hcm,(fun e=>by cases e),fun a e=>?_⟩;cases e;have hlt:g<w.heap.size:=by
   rcases Nat.lt_or_ge g w.heap.size with hlt|hge
   ·exact hlt
   ·rw[Array.getElem?_eq_none hge] at hg;cases hg
  refine⟨g,rfl,hb,hlt,fun i hi=>?_,fun o=>frozen_of_row _ _ _ _ _ hg⟩;have hcell:∀j,j<5→w.cell? ⟨g,i*5+j,none⟩=(encC (cat l i))[j]?:=by
   intro j hj;have hlt:i*5+j<l.length*5:=by omega
   rw[cell_of_row w g (i*5+j) cur _ (0,0) hg,←zlU l i j hi hj,←htake,List.getElem?_take,if_pos hlt];simp
  exact⟨hcell 0 (by omega),hcell 1 (by omega),hcell 2 (by omega),hcell 3 (by omega),hcell 4 (by omega)⟩
theorem OwnC.nil (w:World)(base:Nat):OwnC w base (.slice none 0 0) []:=World.ownsRow_nil w base _ 5
theorem OwnC.kept {w w':World}{base:Nat}{v:Value}{l:List Cv}{row:Option Nat}(h:OwnC w base v l)(hg:w.grownBy w' row)(hv:v.ownBlock=none∨v.ownBlock≠row):OwnC w' base v l:=World.ownsRow.kept h hg hv
theorem OwnC.alloc {w:World}{base:Nat}{v:Value}{l:List Cv}(h:OwnC w base v l)(o:Obj):OwnC (w.alloc o) base v l:=h.kept (World.grownBy_alloc w o none) (by cases v.ownBlock <;> simp)
theorem OwnC.lt {w:World}{base:Nat}{v:Value}{l:List Cv}(h:OwnC w base v l):∀k,v.ownBlock=some k→base≤k∧k<w.heap.size:=World.ownsRow.lt h
theorem OwnC.cs {w:World}{base:Nat}{v:Value}{l:List Cv}(h:OwnC w base v l)(hu:∀x∈l,CvU w x):∃A c,v=.slice A l.length c∧Cs w A c l∧(A=none→c=0)∧∀a,A=some a→base≤a.block:=by
 obtain⟨A,c,h1,h2,h3,h4,h5⟩:=h.shape;refine⟨A,c,h1,⟨hu,h2,h3,fun hn=>?_⟩,fun e=>(h4 e).1,fun a e=>?_⟩
 ·cases A with
  | none=>have:=(h4 rfl).2;subst this;exact absurd hn (Nat.lt_irrefl 0)
  | some a =>
   obtain⟨g,rfl,hg,hlt,hc,_⟩:=h5 a rfl;exact⟨g,0,rfl,hlt,fun i hi=>by rw[Nat.zero_add];exact hc i hi⟩
 ·obtain⟨g,rfl,hg,_⟩:=h5 a e;exact hg
theorem zjm (w:World)(x:Cv):∀j u,(cvcs [x])[j]?=some u→(w.alloc (.cells #[.bool x.sx,.slice x.ax x.xs.length x.cx,.bool x.sy,.slice x.ay x.ys.length x.cy,.int .u8 x.st] 123)).cell? ((⟨w.heap.size,0,none⟩:Addr).add j)=some u:=by
 intro j u hu;have hj:=(List.getElem?_eq_some_iff.1 hu).1;rw[zjl] at hj;obtain⟨h0,h1,h2,h3,h4⟩:=CvAt.new w x 123;rw[Nat.zero_add] at h1 h2 h3 h4;have hj5:j<5:=by simpa using hj
 have hadd:(⟨w.heap.size,0,none⟩:Addr).add j=⟨w.heap.size,j,none⟩:=by
  unfold Addr.add;split
  ·rename_i h;subst h;rfl
  ·simp
 rw[hadd]
 match j,hj5 with
 | 0,_=>rw[h0];exact hu
 | 1,_=>rw[h1];exact hu
 | 2,_=>rw[h2];exact hu
 | 3,_=>rw[h3];exact hu
 | 4,_=>rw[h4];exact hu
theorem zdu (w:World)(base:Nat)(v:Value)(xs ys:List Cv)(ty:TypeId)(ad:Addr)(m c:Nat)(how:OwnC w base v xs)(hN:∀j u,(cvcs ys)[j]?=some u→w.cell? (ad.add j)=some u)(hm:ys.length=m)(hs:xs.length+m≤1000000)(hb:base≤w.heap.size) :
  ∃v' w',(Builtin.append_ #[35,35] ty #[v,.slice (some ad) m c]).run Tryz.prog w=.ok v' w'∧OwnC w' base v' (xs++ys)∧w.grownBy w' v.ownBlock∧(v'.ownBlock=v.ownBlock∨v'.ownBlock=some w.heap.size):=by
 obtain⟨i0,hi,hz0,hz1,hz2⟩:=info_parts Tryz.infoC;obtain⟨v',w',hrun,h2,h3,_,h5⟩:=run_append_own_at (P:=Tryz.prog) w base 35 ty 123 i0 (cvv cv0) 5 72 Tryz.underlying35 hi hz0 hz1 hz2 rfl (by omega) v xs.length (cvcs xs) how ad m c (cvcs ys) (by rw[zjl,hm]) hN (ztx ys) (by simp only[maxLen];omega) (by omega) hb;refine⟨v',w',hrun,?_,h3,h5⟩;unfold OwnC;rw[ztw,List.length_append,hm];exact h2
theorem zcC (w:World){ops:Array Oper}{rest:List Oper}{o:Oper}{a:Act}{Q:Exit→Act→World→Prop}(hg:o.guard=none)(s x:Operand)
  (hop:o.op=Op.call { callee:=Callee.builtin Builtin.append,args:=#[s,x],argTypes:=#[35,35] }) (base:Nat) (v:Value) (xs:List Cv) (y:Cv) (ad:Addr) (c:Nat)
  (hs:a.eval s=v) (hx:a.eval x=.slice (some ad) 1 c) (how:OwnC w base v xs) (hN:∀j u,(cvcs [y])[j]?=some u→w.cell? (ad.add j)=some u) (hsz:xs.length+1≤1000000) (hb:base≤w.heap.size)
  (hK:∀v' w',OwnC w' base v' (xs++[y])→w.grownBy w' v.ownBlock→(v'.ownBlock=v.ownBlock∨v'.ownBlock=some w.heap.size)→wpList Tryz.prog ops Q rest (a.put o.dst v') w') :
  wpList Tryz.prog ops Q (o :: rest) a w:=by
 refine wpList_plain hg fun K hK'=>?_;obtain⟨v',w',hrun,h1,h2,h3⟩:=zdu w base v xs [y] o.type ad 1 c how hN rfl hsz hb;unfold Oper.wp execOp;simp only[hop,resolve,invoke,builtin,Sem.run_bind,Sem.run_pure,Result.andThen_ok,List.map_toArray,List.map_cons,List.map_nil,hs,hx,hrun];exact hK' _ _ (hK v' w' h1 h2 h3)
theorem zfR {w:World}{o:Oper}{a:Act}{K:Act→World→Prop}{Q:Exit→Act→World→Prop}(s x:Operand)
  (hop:o.op=Op.call { callee:=Callee.builtin Builtin.append,args:=#[s,x],argTypes:=#[35,35] }) (base:Nat) (v:Value) (xs:List Cv) (y:Cv) (ad:Addr) (c:Nat)
  (hs:a.eval s=v) (hx:a.eval x=.slice (some ad) 1 c) (how:OwnC w base v xs) (hN:∀j u,(cvcs [y])[j]?=some u→w.cell? (ad.add j)=some u) (hsz:xs.length+1≤1000000) (hb:base≤w.heap.size)
  (h:∀v' w',OwnC w' base v' (xs++[y])→w.grownBy w' v.ownBlock→(v'.ownBlock=v.ownBlock∨v'.ownBlock=some w.heap.size)→K (a.put o.dst v') w'):Oper.wp Tryz.prog o a w K Q:=by
 obtain⟨v',w',hrun,h1,h2,h3⟩:=zdu w base v xs [y] o.type ad 1 c how hN rfl hsz hb;unfold Oper.wp execOp;simp only[hop,resolve,invoke,builtin,Sem.run_bind,Sem.run_pure,Result.andThen_ok,List.map_toArray,List.map_cons,List.map_nil,hs,hx,hrun];exact h v' w' h1 h2 h3
end Go.Proofs.YtbabbmdpgpcgjaaGreatDoor

namespace Go.Proofs.YtbabbmdpgpcgjaaGreatDoor
open Go.RowKit Nds Num
structure PB (w:World)(B:Nat)(x y:Bool × Option Addr × Nat × List Nat)(W:World):Prop where
 b:Below w.heap.size w W
 lw:w.heap.size≤B
 lt:B+1<W.heap.size
 x0:W.cell? ⟨B,0,none⟩=some (.bool x.1)
 x1:W.cell? ⟨B,1,none⟩=some (.slice x.2.1 x.2.2.2.length x.2.2.1)
 y0:W.cell? ⟨B+1,0,none⟩=some (.bool y.1)
 y1:W.cell? ⟨B+1,1,none⟩=some (.slice y.2.1 y.2.2.2.length y.2.2.1)
 ux:Us W x.2.1 x.2.2.1 x.2.2.2
 uy:Us W y.2.1 y.2.2.1 y.2.2.2
theorem PB.next {w:World}{B:Nat}{x y:Bool × Option Addr × Nat × List Nat}{W W1:World}(h:PB w B x y W)(k:Below W.heap.size W W1):PB w B x y W1 :=
 ⟨h.b.trans (k.mono h.b.size),h.lw,Nat.lt_of_lt_of_le h.lt k.size,(k.cell (p:=⟨B,0,none⟩) (by have:=h.lt;show B<_;omega)).trans h.x0,(k.cell (p:=⟨B,1,none⟩) (by have:=h.lt;show B<_;omega)).trans h.x1,
  (k.cell (p:=⟨B+1,0,none⟩) h.lt).trans h.y0,(k.cell (p:=⟨B+1,1,none⟩) h.lt).trans h.y1,h.ux.below k,h.uy.below k⟩
theorem PB.new (w:World)(s t:Bool)(A B:Option Addr)(c d:Nat)(xs ys:List Nat)(h:Us w A c xs)(k:Us w B d ys) :
  PB w w.heap.size (s,A,c,xs) (t,B,d,ys) ((w.alloc (.cells #[.bool s,.slice A xs.length c] 69)).alloc (.cells #[.bool t,.slice B ys.length d] 69)):=by
 obtain⟨e1,e2,e3⟩:=box2 w (.bool s) (.slice A xs.length c) (.bool t) (.slice B ys.length d) 69;exact⟨e3,Nat.le_refl _,by simp,e1.1,e1.2.1,e2.1,e2.2.1,h.below e3,k.below e3⟩
theorem zjn {a b:Int}:decide (ordI a b<0)=decide (a<b):=by
 unfold ordI;split
 ·rename_i h;rw[decide_eq_true h];rfl
 ·rename_i h;rw[decide_eq_false h];split <;> rfl
theorem zjo {a b:Int}:decide (ordI a b≥0)=decide (b≤a):=by
 unfold ordI;split
 ·rename_i h;rw[decide_eq_false (by omega),decide_eq_false (by omega)]
 ·rename_i h;rw[decide_eq_true (show b≤a by omega)];split <;> rfl
def inH (x h:Int):Bool:=decide (x<h)&&decide (-h≤x)
theorem zct (s t_:Bool)(A B:Option Addr)(c d:Nat)(xs ys:List Nat)(w:World)(h:Us w A c xs)(k:Us w B d ys)(hl:xs.length≤60000)(kl:ys.length≤50000)(hc:zaC s xs)(kc:zaC t_ ys) :
  Calls Tryz.prog 138 #[.agg #[.bool s,.slice A xs.length c],.agg #[.bool t_,.slice B ys.length d]] w fun e w'=>e=.returned (.bool (inH (ival s xs) (ival t_ ys)))∧Below w.heap.size w w':=by
 have hcap:=h.cap;have kcap:=k.cap;obtain⟨W,hW⟩:∃W:World,W=(w.alloc (.cells #[.bool s,.slice A xs.length c] 69)).alloc (.cells #[.bool t_,.slice B ys.length d] 69):=⟨_,rfl⟩;have hP:PB w w.heap.size (s,A,c,xs) (t_,B,d,ys) W:=by rw[hW];exact PB.new w s t_ A B c d xs ys h k
 obtain⟨X,hX⟩:∃X,X=ival s xs:=⟨_,rfl⟩;obtain⟨H,hH⟩:∃H,H=ival t_ ys:=⟨_,rfl⟩;rw[←hX,←hH];have HW:=Hh hW;have st:=hP.next (zac (Below.refl _ W) 1);have HXX:=Hh hX;have HHH:=Hh hH;obtain⟨k1,k2,k3,k4⟩:W.cell? ⟨w.heap.size,0,none⟩=some (.bool s)∧W.cell? ⟨w.heap.size,1,none⟩=some (.slice A xs.length c)∧W.cell? ⟨w.heap.size+1,0,none⟩=some (.bool t_)∧W.cell? ⟨w.heap.size+1,1,none⟩=some (.slice B ys.length d):=⟨hP.x0,hP.x1,hP.y0,hP.y1⟩;have HC:=Hh hc;have KC:=Hh kc;have HL:=Hh hl;have KL:=Hh kl;rw[hW] at k1 k2 k3 k4;rw[hW] at st;clear h k hP hW hX hH hc kc;have q0:True:=trivial;by_cases hxh:X<H
 ·have HXH:=Hh hxh;obtain⟨r,hr⟩:∃r,r=ordI X H:=⟨_,rfl⟩;have t1:decide (r<0)=true:=by rw[hr,zjn];exact decide_eq_true hxh
  have HRr:=Hh hr;clear hr hxh;obtain⟨r2,hr2⟩:∃r2,r2=ordI X (-H):=⟨_,rfl⟩;have HR2:=Hh hr2;clear hr2;go_enter Tryz.func138,Tryz.ntmps138;go_wp2_with fail;go_region_held3 (fun w'=>w'.cell? ⟨w.heap.size,0,none⟩=some (.bool s)∧w'.cell? ⟨w.heap.size,1,none⟩=some (.slice A xs.length c)∧w'.cell? ⟨w.heap.size+1,0,none⟩=some (.bool t_)∧w'.cell? ⟨w.heap.size+1,1,none⟩=some (.slice B ys.length d))
   (first|go_keep|exact⟨e1,e2,e3,e4⟩)
   (first
    | (go_at_call 172;refine(zkg t_ B d ys _ (PB.uy (w:=w) (B:=w.heap.size) (x:=(s,A,c,xs)) (y:=(t_,B,d,ys)) st1) (by have:=KL.out;omega)).mono ?_;rintro e w2 ⟨A2,c2,s2,r2_,rfl,u2,q2,v2,b2⟩;have st2:=st1.next b2;have q2w:=q1;clear q1;have e1:=st2.x0;have e2:=st2.x1;have e3:=st2.y0;have e4:=st2.y1;dsimp only at e1 e2 e3 e4)
    | (have _t:=q0;go_at_call 148;clear _t;refine(zeK s t_ A B c d xs ys _ (PB.ux (w:=w) (B:=w.heap.size) (x:=(s,A,c,xs)) (y:=(t_,B,d,ys)) st) (PB.uy (w:=w) (B:=w.heap.size) (x:=(s,A,c,xs)) (y:=(t_,B,d,ys)) st) HL.out (by have:=KL.out;omega) HC.out KC.out).mono ?_;rintro e w1 ⟨rfl,b1⟩;rw[←HXX.out,←HHH.out,←HRr.out];have q1:=q0;clear q0;have st1:=st.next b1;have e1:=st1.x0;have e2:=st1.x1;have e3:=st1.y0;have e4:=st1.y1;dsimp only at e1 e2 e3 e4)
    | (have _t:=q2w;go_at_call 148;clear _t;refine(zeK s s2 A A2 c c2 xs r2_ _ (PB.ux (w:=w) (B:=w.heap.size) (x:=(s,A,c,xs)) (y:=(t_,B,d,ys)) st2) u2 HL.out (by have h1:=zdW (s:=t_) st2.uy.1 KL.out;exact Nat.le_trans (zcz q2 v2 50000 (by rw[Int.natAbs_neg];exact h1)) (by omega)) HC.out q2).mono ?_;rintro e w3 ⟨rfl,b3⟩;rw[←HXX.out,v2,←HHH.out,←HR2.out];have st3:=st2.next b3;have e1:=st3.x0;have e2:=st3.x1;have e3:=st3.y0;have e4:=st3.y1;dsimp only at e1 e2 e3 e4))
  all_goals
   go_wp2_with fail;go_ret;refine⟨?_,st3.b⟩;unfold inH;rw[decide_eq_true HXH.out,Bool.true_and,←zjo (a:=X) (b := -H),←HR2.out];rfl
 ·obtain⟨r,hr⟩:∃r,r=ordI X H:=⟨_,rfl⟩;have t1:decide (r<0)=false:=by rw[hr,zjn];exact decide_eq_false hxh
  have HRr:=Hh hr;have HXH:=Hh hxh;clear hr hxh;go_enter Tryz.func138,Tryz.ntmps138;go_wp2_with fail;go_region_with (go_at_call 148;refine(zeK s t_ A B c d xs ys _ (PB.ux (w:=w) (B:=w.heap.size) (x:=(s,A,c,xs)) (y:=(t_,B,d,ys)) st) (PB.uy (w:=w) (B:=w.heap.size) (x:=(s,A,c,xs)) (y:=(t_,B,d,ys)) st) HL.out (by have:=KL.out;omega) HC.out KC.out).mono ?_;rintro e w1 ⟨rfl,b1⟩;rw[←HXX.out,←HHH.out,←HRr.out];have st1:=st.next b1;have e1:=st1.x0;have e2:=st1.x1;have e3:=st1.y0;have e4:=st1.y1;dsimp only at e1 e2 e3 e4)
  all_goals
   go_wp2_with fail;go_ret;refine⟨?_,st1.b⟩;unfold inH;rw[decide_eq_false (Int.not_lt.2 HXH.out),Bool.false_and];rfl
def inL (c:Cl)(lv:Nat):Bool:=inH c.x (p2 (lv-1))&&inH c.y (p2 (lv-1))
def upL (c:Cl)(lv:Nat):Nat:=if h:lv≤1329 then (if inL c lv=true then lv else upL c (lv+1)) else lv
 termination_by 1330-lv
theorem zeV {c:Cl}{lv:Nat}(h:inL c lv=true):upL c lv=lv:=by
 by_cases h9:lv≤1329
 ·rw[upL,dif_pos h9,if_pos h]
 ·rw[upL,dif_neg h9]
theorem zjp {c:Cl}{lv:Nat}(h:¬ lv≤1329):upL c lv=lv:=by
 rw[upL,dif_neg h]
theorem zeW {c:Cl}{lv:Nat}(h:lv≤1329)(h2:inL c lv=false):upL c lv=upL c (lv+1):=by
 rw[upL,dif_pos h,if_neg (by rw[h2];simp)]
def zaJ (l:List Cl):Nat:=l.foldl (fun lv c=>upL c lv) 1
theorem zlV (l:List Cl)(c:Cl):zaJ (l++[c])=upL c (zaJ l):=by
 unfold zaJ;rw[List.foldl_append];rfl
theorem zhd {l:List Cv}{k:Nat}(hk:k<l.length):zaJ ((l.take (k+1)).map Cv.cl)=upL (cat l k).cl (zaJ ((l.take k).map Cv.cl)):=by
 rw[←List.take_append_getElem (l:=l) (i:=k) hk,List.map_append,List.map_cons,List.map_nil,zlV,←zcr hk]
theorem zbS {w:World}{A:Option Addr}{c:Nat}{xs:List Nat}(h:Us w A c xs){g:Nat}(hg:∀o v,w.cell? ⟨g,o,none⟩=some v→∀k,v≠.int .u32 k):0<xs.length→∀a,A=some a→a.block≠g:=fun hx a e he=>by
 obtain⟨b,off,e',hb,hc⟩:=h.at_ hx
 rw[e] at e';cases e';dsimp only at he;subst he;exact hg _ _ (hc 0 hx) _ rfl
structure HX (W:World)(g:Nat)(s:Bool)(A:Option Addr)(c:Nat)(xs:List Nat)(n:Int):Prop where
 box:W.heap[g]?=some (.cells #[.bool s,.slice A xs.length c] 69)
 us:Us W A c xs
 cn:zaC s xs
 v:ival s xs=n
 off:0<xs.length→∀a,A=some a→a.block≠g
theorem HX.lt {W:World}{g:Nat}{s:Bool}{A:Option Addr}{c:Nat}{xs:List Nat}{n:Int}(h:HX W g s A c xs n):g<W.heap.size:=(Array.getElem?_eq_some_iff.1 h.box).1
theorem HX.c0 {W:World}{g:Nat}{s:Bool}{A:Option Addr}{c:Nat}{xs:List Nat}{n:Int}(h:HX W g s A c xs n):W.cell? ⟨g,0,none⟩=some (.bool s):=by
 rw[cell_of_row W g _ _ _ _ h.box];rfl
theorem HX.c1 {W:World}{g:Nat}{s:Bool}{A:Option Addr}{c:Nat}{xs:List Nat}{n:Int}(h:HX W g s A c xs n):W.cell? ⟨g,1,none⟩=some (.slice A xs.length c):=by
 rw[cell_of_row W g _ _ _ _ h.box];rfl
theorem HX.free {W:World}{g:Nat}{s:Bool}{A:Option Addr}{c:Nat}{xs:List Nat}{n:Int}(h:HX W g s A c xs n)(k:Nat):W.frozen? ⟨g,k,none⟩=false:=frozen_of_row W g k _ _ h.box
theorem HX.next {W W1:World}{g:Nat}{s:Bool}{A:Option Addr}{c:Nat}{xs:List Nat}{n:Int}(h:HX W g s A c xs n)(k:Below W.heap.size W W1):HX W1 g s A c xs n :=
 ⟨(k.block g h.lt).trans h.box,h.us.below k,h.cn,h.v,h.off⟩
theorem zcT {W:World}{g:Nat}{s:Bool}{A:Option Addr}{n c:Nat}(h:W.heap[g]?=some (.cells #[.bool s,.slice A n c] 69)):∀o v,W.cell? ⟨g,o,none⟩=some v→∀k,v≠.int .u32 k:=fun o v hv k e=>by
 subst e;rw[cell_of_row W g _ _ _ _ h] at hv
 match o with
 | 0=>simp at hv
 | 1=>simp at hv
 | o+2=>simp at hv
theorem HX.set {W:World}{g:Nat}{s s2:Bool}{A A2:Option Addr}{c c2:Nat}{xs ys:List Nat}{n m:Int}(h:HX W g s A c xs n)(hu:Us W A2 c2 ys)(hc:zaC s2 ys)(hv:ival s2 ys=m) :
  HX ((W.setCell ⟨g,0,none⟩ (.bool s2)).setCell ⟨g,1,none⟩ (.slice A2 ys.length c2)) g s2 A2 c2 ys m:=by
 have ho:=zbS hu (zcT h.box);have hk:∀k,k<W.heap.size→k≠g→((W.setCell ⟨g,0,none⟩ (.bool s2)).setCell ⟨g,1,none⟩ (.slice A2 ys.length c2)).heap[k]?=W.heap[k]?:=fun k _ hk =>
  (Below.heap_setCell _ _ _ _ hk).trans (Below.heap_setCell _ _ _ _ hk)
 exact⟨heap_setCell_same _ g 1 _ _ _ (heap_setCell_same W g 0 _ _ _ h.box),zbt hu hk (by simp[World.setCell]) ho,hc,hv,ho⟩
theorem zvm (n:Nat):shlI (p2 n) 1=p2 (n+1):=by
 unfold shlI;rw[if_pos (by decide),zap];show p2 n*2^1=_;omega
theorem zvn {s:Bool}{xs:List Nat}{n:Nat}(hc:zaC s xs)(hv:ival s xs=p2 n)(hn:n≤1330):xs.length≤50:=by
 refine zcz hc hv 50 ?_;unfold p2;obtain⟨M,hM⟩:∃M,M=50:=⟨_,rfl⟩;rw[←hM,show((2:Int)^n).natAbs=2^n by rw[Int.natAbs_pow];rfl,show(4294967296:Nat)=2^32 by decide,←Nat.pow_mul];exact Nat.pow_lt_pow_right (by decide) (by omega)
theorem zkr (A0:Option Addr)(c0 n:Nat)(l:List Cv)(w:World)(h:Cs w A0 c0 l)(hn:l.length=n)(hR:∀v∈l,CvR v)(hn9:n≤900000) :
  Calls Tryz.prog 100 #[.slice A0 n c0] w fun e w'=>e=.returned (.int .i64 (zaJ (l.map Cv.cl):Nat))∧Below w.heap.size w w':=by
 have hcap:=h.cap;rw[hn] at hcap;have HC:=Hh h;have HN:=Hh hn;have HR:=Hh hR;clear h hR hn;go_enter Tryz.func100,Tryz.ntmps100;go_wp2_with (go_at_call 137;refine(zgK 1 _ (by decide) (by decide)).mono ?_;rintro e w1 ⟨A1,c1,s1,r1,rfl,q1,k1,v1,b1⟩;have HB1:=Hh b1;have HU1:=Hh q1;have HK1:=Hh k1;have HV1:=Hh v1;clear b1 q1 k1 v1);obtain⟨g,hg⟩:∃g,g=w1.heap.size:=⟨_,rfl⟩;rw[←hg];have HG:=Hh (show w.heap.size≤g by rw[hg];exact HB1.out.size);have hx0:HX (w1.alloc (.cells #[.bool s1,.slice A1 r1.length c1] 69)) g s1 A1 c1 r1 (p2 0):=by
  rw[hg];have hb:=heap_alloc_new w1 (.cells #[.bool s1,.slice A1 r1.length c1] 69);exact⟨hb,HU1.out.below ((Below.refl _ w1).alloc (Nat.le_refl _) _),HK1.out,HV1.out,fun hx a e=>by have:=zqu HU1.out hx a e;omega⟩
 have HX0:=Hh hx0;have HB2:=Hh (HB1.out.alloc HB1.out.size (.cells #[.bool s1,.slice A1 r1.length c1] 69));clear hg hx0;go_loopw [10,3] (fun z1 z2 wr=>∃(k lv:Nat) (s:Bool) (A:Option Addr) (c:Nat) (xs:List Nat),k≤n∧z1=.int .i64 k∧z2=.int .i64 lv∧1≤lv∧lv≤1330∧zaJ ((l.take k).map Cv.cl)=lv∧HX wr g s A c xs (p2 (lv-1))∧Below w.heap.size w wr) (fun z1 _ _=>n-(intOf z1).toNat)
 case atStart=>exact⟨0,1,s1,A1,c1,r1,by omega,rfl,rfl,by omega,by omega,rfl,HX0.out,HB2.out⟩
 case round =>
  obtain⟨k,lv,s,A,c,xs,hk,rfl,rfl,hl1,hl2,hlv,hx,hb⟩:=hrel;have HLV:=Hh hlv;have HXX:=Hh hx;have HBB:=Hh hb;clear hlv;by_cases hlt:k<n
  ·have i1:(k:Int)<(n:Int):=by omega
   have i2:(0:Int)≤(k:Int):=by omega
   have t1:decide ((k:Int)<(n:Int))=true:=decide_eq_true i1;obtain⟨b,off,rfl,hbl,hcl⟩:=(HC.out.below hb).at_ (by rw[HN.out];omega)
   obtain⟨c1_,c2_,c3_,c4_,c5_⟩:=hcl k (by rw[HN.out];exact hlt);have hvu:=(HC.out.below hb).1 _ (zaZ (i:=k) (by rw[HN.out];exact hlt));have hvr:=HR.out _ (zaZ (i:=k) (by rw[HN.out];exact hlt));obtain⟨v,hv⟩:∃v,v=cat l k:=⟨_,rfl⟩;rw[←hv] at c1_ c2_ c3_ c4_ c5_ hvu hvr;have hv1:=hvu.1.cap;have hv2:=hvu.2.1.cap;have HV:=Hh hv;have HVU:=Hh hvu;have HVR:=Hh hvr;have HCL:=Hh hcl;clear hv hvu hvr hcl hx hb;go_wp2_with fail;obtain⟨bx,hbx⟩:∃bx,bx=wr.heap.size:=⟨_,rfl⟩;rw[←hbx];have hgx:Gro wr (wr.alloc (.cells #[.bool v.sx,.slice v.ax v.xs.length v.cx,.bool v.sy,.slice v.ay v.ys.length v.cy,.int .u8 v.st] 123)):=(Gro.refl wr).alloc _;have hcv:CvAt (wr.alloc (.cells #[.bool v.sx,.slice v.ax v.xs.length v.cx,.bool v.sy,.slice v.ay v.ys.length v.cy,.int .u8 v.st] 123)) bx 0 v:=by rw[hbx];exact CvAt.new wr v _
   have hbxg:g<bx:=by rw[hbx];exact HXX.out.lt
   have hbxl:bx<(wr.alloc (.cells #[.bool v.sx,.slice v.ax v.xs.length v.cx,.bool v.sy,.slice v.ay v.ys.length v.cy,.int .u8 v.st] 123)).heap.size:=by rw[hbx];simp
   have HXA:=Hh (HXX.out.next hgx.b);have HBA:=Hh (HBB.out.trans (hgx.b.mono HBB.out.size));have HUA:=Hh (HVU.out.below hgx.b);clear hbx hgx;go_loopw [3] (fun z2 wi=>∃(lw:Nat) (s:Bool) (A:Option Addr) (c:Nat) (xs:List Nat),z2=.int .i64 lw∧1≤lw∧lw≤1330∧upL v.cl lv=upL v.cl lw∧HX wi g s A c xs (p2 (lw-1))∧CvAt wi bx 0 v∧CvU wi v∧bx<wi.heap.size∧Below w.heap.size w wi) (fun z2 _=>1330-(intOf z2).toNat)
   case atStart=>exact⟨lv,s,A,c,xs,rfl,hl1,hl2,rfl,HXA.out,hcv,HUA.out,hbxl,HBA.out⟩
   case round =>
    obtain⟨lw,s,A,c,xs,rfl,h1,h2,hup,hxi,hci,hui,hli,hbi⟩:=hrel;have HUP:=Hh hup;have HIX:=Hh hxi;have HIU:=Hh hui;have HIC:=Hh hci;have HIL:=Hh hli;have HIB:=Hh hbi;have HLN:=Hh (zvn hxi.cn hxi.v (by omega));have HGX:=Hh hbxg;obtain⟨d1,d2,d3,d4,d5⟩:=hci;have x1:=hxi.c0;have x2:=hxi.c1;have x3:=hxi.free 0;have x4:=hxi.free 1;have hxc:=hxi.us.cap;clear hup hxi hui hli hbi hcv;by_cases hL:lw≤1329
    ·have t2:decide ((lw:Int)≤1329)=true:=decide_eq_true (by omega);obtain⟨bX,hbX⟩:∃bX,bX=inH (ival v.sx v.xs) (ival s xs):=⟨_,rfl⟩;obtain⟨bY,hbY⟩:∃bY,bY=inH (ival v.sy v.ys) (ival s xs):=⟨_,rfl⟩;have HQX:=Hh hbX;have HQY:=Hh hbY;have HVX:=Hh (show bX=inH v.cl.x (p2 (lw-1)) by rw[←HIX.out.v];exact hbX);have HVY:=Hh (show bY=inH v.cl.y (p2 (lw-1)) by rw[←HIX.out.v];exact hbY);clear hbX hbY;cases bX with
     | false =>
      go_wp2_with (first
       | (go_at_call_of 138 (Value.agg #[Value.bool v.sx,Value.slice v.ax v.xs.length v.cx]);refine(zct v.sx s v.ax A v.cx c v.xs xs _ HIU.out.1 HIX.out.us HVR.out.2.2.1 (by have:=HLN.out;omega) HVR.out.1 HIX.out.cn).mono ?_;rintro e w5 ⟨rfl,b5⟩;rw[←HQX.out];have HIX5:=Hh (HIX.out.next b5);have HIU5:=Hh (HIU.out.below b5);have HIC5:=Hh (HIC.out.below (b5.block bx HIL.out));have HIL5:=Hh (Nat.lt_of_lt_of_le HIL.out b5.size);have HIB5:=Hh (HIB.out.trans (b5.mono HIB.out.size));clear b5;obtain⟨f1,f2,f3,f4,f5⟩:=HIC5.out;have y1:=HIX5.out.c0;have y2:=HIX5.out.c1;have y3:=HIX5.out.free 0;have y4:=HIX5.out.free 1)
       | (go_at_call 139;refine(ziW s A c xs 1 _ HIX5.out.us (by have:=HLN.out;omega)).mono ?_;rintro e w7 ⟨A7,c7,s7,r7,rfl,u7,k7,v7,b7⟩;have HIX7:=Hh (HIX5.out.next b7);have HU7:=Hh u7;have HK7:=Hh k7;have HV7:=Hh v7;have HIU7:=Hh (HIU5.out.below b7);have HIC7:=Hh (HIC5.out.below (b7.block bx HIL5.out));have HIL7:=Hh (Nat.lt_of_lt_of_le HIL5.out b7.size);have HIB7:=Hh (HIB5.out.trans (b7.mono HIB5.out.size));clear u7 k7 v7 b7;have g1:=HIX7.out.c0;have g2:=HIX7.out.c1;have g3:=HIX7.out.free 0;have g4:=HIX7.out.free 1))
      go_roundw
      case rel =>
       have hx7:HX ((w7.setCell ⟨g,0,none⟩ (.bool s7)).setCell ⟨g,1,none⟩ (.slice A7 r7.length c7)) g s7 A7 c7 r7 (p2 (lw+1-1)):=HIX7.out.set HU7.out HK7.out (by rw[HV7.out,HIX.out.v,zvm,show lw-1+1=lw+1-1 by omega]);have hkk:∀q,q≠g→((w7.setCell ⟨g,0,none⟩ (.bool s7)).setCell ⟨g,1,none⟩ (.slice A7 r7.length c7)).heap[q]?=w7.heap[q]?:=fun q hq=>(Below.heap_setCell _ _ _ _ hq).trans (Below.heap_setCell _ _ _ _ hq);refine⟨lw+1,s7,A7,c7,r7,by go_num,by omega,by omega,?_,hx7,HIC7.out.below (hkk bx (by have:=HGX.out;omega)),?_,by simp[World.setCell];exact HIL7.out,(HIB7.out.setCell (p:=⟨g,0,none⟩) HG.out _).setCell (p:=⟨g,1,none⟩) HG.out _⟩
       ·rw[HUP.out];exact zeW hL (by unfold inL;rw[←HVX.out,←HVY.out];simp)
       ·refine zdk HIU7.out (fun q _ hq=>hkk q hq) (by simp[World.setCell]) ⟨zbS HIU7.out.1 (zcT HIX7.out.box),zbS HIU7.out.2.1 (zcT HIX7.out.box)⟩
      case measure=>simp[intOf];omega
     | true =>
      cases bY with
      | false =>
       go_wp2_with (first
        | (go_at_call_of 138 (Value.agg #[Value.bool v.sx,Value.slice v.ax v.xs.length v.cx]);refine(zct v.sx s v.ax A v.cx c v.xs xs _ HIU.out.1 HIX.out.us HVR.out.2.2.1 (by have:=HLN.out;omega) HVR.out.1 HIX.out.cn).mono ?_;rintro e w5 ⟨rfl,b5⟩;rw[←HQX.out];have HIX5:=Hh (HIX.out.next b5);have HIU5:=Hh (HIU.out.below b5);have HIC5:=Hh (HIC.out.below (b5.block bx HIL.out));have HIL5:=Hh (Nat.lt_of_lt_of_le HIL.out b5.size);have HIB5:=Hh (HIB.out.trans (b5.mono HIB.out.size));clear b5;obtain⟨f1,f2,f3,f4,f5⟩:=HIC5.out;have y1:=HIX5.out.c0;have y2:=HIX5.out.c1;have y3:=HIX5.out.free 0;have y4:=HIX5.out.free 1)
        | (go_at_call_of 138 (Value.agg #[Value.bool v.sy,Value.slice v.ay v.ys.length v.cy]);refine(zct v.sy s v.ay A v.cy c v.ys xs _ HIU5.out.2.1 HIX5.out.us HVR.out.2.2.2 (by have:=HLN.out;omega) HVR.out.2.1 HIX5.out.cn).mono ?_;rintro e w6 ⟨rfl,b6⟩;rw[←HQY.out];have HIX6:=Hh (HIX5.out.next b6);have HIU6:=Hh (HIU5.out.below b6);have HIC6:=Hh (HIC5.out.below (b6.block bx HIL5.out));have HIL6:=Hh (Nat.lt_of_lt_of_le HIL5.out b6.size);have HIB6:=Hh (HIB5.out.trans (b6.mono HIB5.out.size));clear b6;have z1:=HIX6.out.c0;have z2:=HIX6.out.c1;have z3:=HIX6.out.free 0;have z4:=HIX6.out.free 1)
        | (go_at_call 139;refine(ziW s A c xs 1 _ HIX6.out.us (by have:=HLN.out;omega)).mono ?_;rintro e w7 ⟨A7,c7,s7,r7,rfl,u7,k7,v7,b7⟩;have HIX7:=Hh (HIX6.out.next b7);have HU7:=Hh u7;have HK7:=Hh k7;have HV7:=Hh v7;have HIU7:=Hh (HIU6.out.below b7);have HIC7:=Hh (HIC6.out.below (b7.block bx HIL6.out));have HIL7:=Hh (Nat.lt_of_lt_of_le HIL6.out b7.size);have HIB7:=Hh (HIB6.out.trans (b7.mono HIB6.out.size));clear u7 k7 v7 b7;have g1:=HIX7.out.c0;have g2:=HIX7.out.c1;have g3:=HIX7.out.free 0;have g4:=HIX7.out.free 1))
       go_roundw
       case rel =>
        have hx7:HX ((w7.setCell ⟨g,0,none⟩ (.bool s7)).setCell ⟨g,1,none⟩ (.slice A7 r7.length c7)) g s7 A7 c7 r7 (p2 (lw+1-1)):=HIX7.out.set HU7.out HK7.out (by rw[HV7.out,HIX.out.v,zvm,show lw-1+1=lw+1-1 by omega]);have hkk:∀q,q≠g→((w7.setCell ⟨g,0,none⟩ (.bool s7)).setCell ⟨g,1,none⟩ (.slice A7 r7.length c7)).heap[q]?=w7.heap[q]?:=fun q hq=>(Below.heap_setCell _ _ _ _ hq).trans (Below.heap_setCell _ _ _ _ hq);refine⟨lw+1,s7,A7,c7,r7,by go_num,by omega,by omega,?_,hx7,HIC7.out.below (hkk bx (by have:=HGX.out;omega)),?_,by simp[World.setCell];exact HIL7.out,(HIB7.out.setCell (p:=⟨g,0,none⟩) HG.out _).setCell (p:=⟨g,1,none⟩) HG.out _⟩
        ·rw[HUP.out];exact zeW hL (by unfold inL;rw[←HVX.out,←HVY.out];simp)
        ·refine zdk HIU7.out (fun q _ hq=>hkk q hq) (by simp[World.setCell]) ⟨zbS HIU7.out.1 (zcT HIX7.out.box),zbS HIU7.out.2.1 (zcT HIX7.out.box)⟩
       case measure=>simp[intOf];omega
      | true =>
       go_wp2_with (first
        | (go_at_call_of 138 (Value.agg #[Value.bool v.sx,Value.slice v.ax v.xs.length v.cx]);refine(zct v.sx s v.ax A v.cx c v.xs xs _ HIU.out.1 HIX.out.us HVR.out.2.2.1 (by have:=HLN.out;omega) HVR.out.1 HIX.out.cn).mono ?_;rintro e w5 ⟨rfl,b5⟩;rw[←HQX.out];have HIX5:=Hh (HIX.out.next b5);have HIU5:=Hh (HIU.out.below b5);have HIC5:=Hh (HIC.out.below (b5.block bx HIL.out));have HIL5:=Hh (Nat.lt_of_lt_of_le HIL.out b5.size);have HIB5:=Hh (HIB.out.trans (b5.mono HIB.out.size));clear b5;obtain⟨f1,f2,f3,f4,f5⟩:=HIC5.out;have y1:=HIX5.out.c0;have y2:=HIX5.out.c1;have y3:=HIX5.out.free 0;have y4:=HIX5.out.free 1)
        | (go_at_call_of 138 (Value.agg #[Value.bool v.sy,Value.slice v.ay v.ys.length v.cy]);refine(zct v.sy s v.ay A v.cy c v.ys xs _ HIU5.out.2.1 HIX5.out.us HVR.out.2.2.2 (by have:=HLN.out;omega) HVR.out.2.1 HIX5.out.cn).mono ?_;rintro e w6 ⟨rfl,b6⟩;rw[←HQY.out];have HIX6:=Hh (HIX5.out.next b6);have HIU6:=Hh (HIU5.out.below b6);have HIC6:=Hh (HIC5.out.below (b6.block bx HIL5.out));have HIL6:=Hh (Nat.lt_of_lt_of_le HIL5.out b6.size);have HIB6:=Hh (HIB5.out.trans (b6.mono HIB5.out.size));clear b6;have z1:=HIX6.out.c0;have z2:=HIX6.out.c1;have z3:=HIX6.out.free 0;have z4:=HIX6.out.free 1))
       go_roundw
       case rel =>
        refine⟨k+1,lw,s,A,c,xs,by omega,by go_num,rfl,by omega,by omega,?_,HIX6.out,HIB6.out⟩;rw[zhd (by rw[HN.out];exact hlt),←HV.out,HLV.out,HUP.out];exact zeV (by unfold inL;rw[←HVX.out,←HVY.out];rfl)
       case measure=>simp[intOf];omega
    ·have t2:decide ((lw:Int)≤1329)=false:=decide_eq_false (by omega);go_wp2_with fail;go_roundw
     case rel =>
      refine⟨k+1,lw,s,A,c,xs,by omega,by go_num,rfl,by omega,by omega,?_,HIX.out,HIB.out⟩;rw[zhd (by rw[HN.out];exact hlt),←HV.out,HLV.out,HUP.out];exact zjp hL
     case measure=>simp[intOf];omega
  ·obtain rfl:k=n:=by omega
   have t1:decide ((k:Int)<(k:Int))=false:=decide_eq_false (by omega);clear hx hb;go_wp2_with fail;go_ret;refine⟨?_,HBB.out⟩;rw[←HLV.out,List.take_of_length_le (by rw[HN.out];exact Nat.le_refl _)];rfl
theorem zdE (n:Nat)(h:n≤1330):shlI 1 (n:Int)=p2 n:=by
 unfold shlI p2;rw[if_pos (by omega),Int.toNat_natCast,Int.one_mul]
end Go.Proofs.YtbabbmdpgpcgjaaGreatDoor

namespace Go.Proofs.YtbabbmdpgpcgjaaGreatDoor
open Go.RowKit Nds
theorem znp:∀(L:List Cv) (i:Nat) (v:Cv),i<L.length →
  cvcs (L.set i v)=(((((cvcs L).set (i*5) (.bool v.sx)).set (i*5+1) (.slice v.ax v.xs.length v.cx)).set (i*5+2) (.bool v.sy)).set (i*5+3) (.slice v.ay v.ys.length v.cy)).set (i*5+4) (.int .u8 v.st)
 | [],i,v,h=>by simp at h
 | x :: L,0,v,h=>rfl
 | x :: L,i+1,v,h=>by
  have ih:=znp L i v (by simpa using h);show encC x++cvcs (L.set i v)=_;rw[ih];show _=(((((encC x++cvcs L).set ((i+1)*5) _).set ((i+1)*5+1) _).set ((i+1)*5+2) _).set ((i+1)*5+3) _).set ((i+1)*5+4) _;have e:∀(l:List Value) (k:Nat) (u:Value),(encC x++l).set ((i+1)*5+k) u=encC x++l.set (i*5+k) u:=fun l k u=>by
   rw[List.set_append_right _ _ (by show 5≤_;omega)];congr 2;show(i+1)*5+k-5=_;omega
  have e0:∀(l:List Value) (u:Value),(encC x++l).set ((i+1)*5) u=encC x++l.set (i*5) u:=fun l u=>e l 0 u;rw[e0,e,e,e,e]
theorem OwnC.put {w:World}{base g n cap:Nat}{L:List Cv}(h:OwnC w base (.slice (some ⟨g,0,none⟩) n cap) L)(hn:L.length=n){i:Nat}(hi:i<n)(v:Cv) :
  OwnC (((((w.setCell ⟨g,i*5,none⟩ (.bool v.sx)).setCell ⟨g,i*5+1,none⟩ (.slice v.ax v.xs.length v.cx)).setCell ⟨g,i*5+2,none⟩ (.bool v.sy)).setCell ⟨g,i*5+3,none⟩ (.slice v.ay v.ys.length v.cy)).setCell ⟨g,i*5+4,none⟩ (.int .u8 v.st)) base (.slice (some ⟨g,0,none⟩) n cap) (L.set i v):=by
 unfold OwnC at h ⊢;rw[List.length_set,hn,znp L i v (by omega)];rw[hn] at h;exact(((((h.stored (i*5) (.bool v.sx)).1.stored (i*5+1) (.slice v.ax v.xs.length v.cx)).1.stored (i*5+2) (.bool v.sy)).1.stored (i*5+3) (.slice v.ay v.ys.length v.cy)).1.stored (i*5+4) (.int .u8 v.st)).1
theorem zks {a b c:World}{g:Nat}(h:a.grownBy b (some g))(k:b.grownBy c (some g)):a.grownBy c (some g) :=
 ⟨k.os.trans h.os,k.tape.trans h.tape,k.output.trans h.output,Nat.le_trans h.size k.size,fun i hi hne=>(k.block i (Nat.lt_of_lt_of_le hi h.size) hne).trans (h.block i hi hne)⟩
theorem zdl (w:World)(g o:Nat)(a:Value):w.grownBy (w.setCell ⟨g,o,none⟩ a) (some g) :=
 ⟨rfl,rfl,rfl,by simp[World.setCell],fun i _ hi=>Below.heap_setCell _ _ _ _ (fun e=>hi (by rw[e]))⟩
theorem zoo (w:World)(g o:Nat)(a b c d e:Value):w.grownBy (((((w.setCell ⟨g,o,none⟩ a).setCell ⟨g,o+1,none⟩ b).setCell ⟨g,o+2,none⟩ c).setCell ⟨g,o+3,none⟩ d).setCell ⟨g,o+4,none⟩ e) (some g) :=
 zks (zks (zks (zks (zdl w g o a) (zdl _ g (o+1) b)) (zdl _ g (o+2) c)) (zdl _ g (o+3) d)) (zdl _ g (o+4) e)
theorem zyP (n:Nat):(madeCells (cvv cv0).cells (n*5)).toList=cvcs (List.replicate n cv0):=by
 refine List.ext_getElem? fun t=>?_;by_cases ht:t<n*5
 ·obtain⟨i,j,rfl,hj⟩:∃i j,t=i*5+j∧j<5:=⟨t / 5,t%5,by omega,by omega⟩;rw[zlU _ i j (by rw[List.length_replicate];omega) hj];have e1:cat (List.replicate n cv0) i=cv0:=by
   unfold cat;rw[List.getElem?_replicate,if_pos (by omega)];rfl
  rw[e1];simp only[madeCells,Array.getElem?_toList]
  match j,hj with
  | 0,_ =>
   simp only[Nat.add_zero] at ht ⊢;simp[ht,cv0,encC,Value.cells,show i*5%5=0 by omega]
  | 1,_=>simp[ht,cv0,encC,Value.cells,show(i*5+1)%5=1 by omega]
  | 2,_=>simp[ht,cv0,encC,Value.cells,show(i*5+2)%5=2 by omega]
  | 3,_=>simp[ht,cv0,encC,Value.cells,show(i*5+3)%5=3 by omega]
  | 4,_=>simp[ht,cv0,encC,Value.cells,show(i*5+4)%5=4 by omega]
 ·rw[List.getElem?_eq_none (by rw[Array.length_toList,size_madeCells];omega),List.getElem?_eq_none (by rw[zjl,List.length_replicate];omega)]
theorem OwnC.made {w:World}{base g n:Nat}(h:w.ownsRow base 123 5 (.slice (some ⟨g,0,none⟩) n n) n (madeCells (cvv cv0).cells (n*5)).toList):OwnC w base (.slice (some ⟨g,0,none⟩) n n) (List.replicate n cv0):=by
 unfold OwnC;rw[List.length_replicate,←zyP];exact h
theorem OwnC.no_limb {w:World}{base g n:Nat}{L:List Cv}(h:OwnC w base (.slice (some ⟨g,0,none⟩) n n) L)(hn:L.length=n):∀o v,w.cell? ⟨g,o,none⟩=some v→∀k,v≠.int .u32 k:=by
 intro o v hv k e;subst e;unfold OwnC at h;rw[hn] at h;rcases h.2 with⟨h',_⟩|⟨g',cap,cur,h',hb,hg,hnc,hcm,hcs,htake⟩
 ·cases h'
 ·cases h';rw[cell_of_row w g o cur _ (0,0) hg] at hv;have ho:o<n*5:=by
   have:=(Array.getElem?_eq_some_iff.1 hv).1;omega
  have h2:(cvcs L)[o]?=some (.int .u32 k):=by
   rw[←htake,List.getElem?_take,if_pos ho,Array.getElem?_toList];exact hv
  have h3:(Value.int .u32 k)∈cvcs L:=List.mem_of_getElem? h2;obtain⟨x,_,hx⟩:=List.mem_flatMap.1 h3;simp[encC] at hx
structure Gv where
 s:Bool
 a:Option Addr
 c:Nat
 xs:List Nat
def gv0:Gv:=⟨false,none,0,[]⟩
def gat (l:List Gv)(i:Nat):Gv:=l[i]?.getD gv0
def encG (v:Gv):List Value:=[.bool v.s,.slice v.a v.xs.length v.c]
abbrev gvv (v:Gv):Value:=.agg #[.bool v.s,.slice v.a v.xs.length v.c]
theorem Tryz.infoG:(Tryz.prog.info? 69).map (fun i=>(i.zero,i.size,i.bytes))=some (some (gvv gv0),2,32):=by kernel_rfl
def gvcs (l:List Gv):List Value:=l.flatMap encG
theorem zty (l:List Gv):(gvcs l).length=l.length*2:=by
 unfold gvcs
 induction l with
 | nil=>rfl
 | cons x l ih =>
  rw[List.flatMap_cons,List.length_append,ih,List.length_cons];show 2+_=_;omega
theorem zlW:∀(l:List Gv) (i j:Nat),i<l.length→j<2→(gvcs l)[i*2+j]?=(encG (gat l i))[j]?
 | [],i,_,hi,_=>by simp at hi
 | x :: l,0,j,_,hj=>by
  show(encG x++gvcs l)[0*2+j]?=_;rw[List.getElem?_append_left (by show _<2;omega),show 0*2+j=j by omega];rfl
 | x :: l,i+1,j,hi,hj=>by
  show(encG x++gvcs l)[(i+1)*2+j]?=_;rw[List.getElem?_append_right (by show 2≤_;omega),show(i+1)*2+j-(encG x).length=i*2+j by show _-2=_;omega,zlW l i j (by simpa using hi) hj];rfl
theorem znq:∀(L:List Gv) (i:Nat) (v:Gv),i<L.length→gvcs (L.set i v)=((gvcs L).set (i*2) (.bool v.s)).set (i*2+1) (.slice v.a v.xs.length v.c)
 | [],i,v,h=>by simp at h
 | x :: L,0,v,h=>rfl
 | x :: L,i+1,v,h=>by
  have ih:=znq L i v (by simpa using h);show encG x++gvcs (L.set i v)=_;rw[ih];show _=((encG x++gvcs L).set ((i+1)*2) _).set ((i+1)*2+1) _;have e:∀(l:List Value) (k:Nat) (u:Value),(encG x++l).set ((i+1)*2+k) u=encG x++l.set (i*2+k) u:=fun l k u=>by
   rw[List.set_append_right _ _ (by show 2≤_;omega)];congr 2;show(i+1)*2+k-2=_;omega
  have e0:∀(l:List Value) (u:Value),(encG x++l).set ((i+1)*2) u=encG x++l.set (i*2) u:=fun l u=>e l 0 u;rw[e0,e]
def OwnG (w:World)(base g n:Nat)(l:List Gv):Prop:=l.length=n∧w.ownsRow base 69 2 (.slice (some ⟨g,0,none⟩) n n) n (gvcs l)
theorem OwnG.row {w:World}{base g n:Nat}{l:List Gv}(h:OwnG w base g n l):base≤g∧g<w.heap.size∧(∀i,i<n→w.cell? ⟨g,i*2,none⟩=some (.bool (gat l i).s)∧w.cell? ⟨g,i*2+1,none⟩=some (.slice (gat l i).a (gat l i).xs.length (gat l i).c))∧(∀o,w.frozen? ⟨g,o,none⟩=false)∧(∀o v,w.cell? ⟨g,o,none⟩=some v→∀k,v≠.int .u32 k):=by
 obtain⟨hn,h⟩:=h;rcases h.2 with⟨h',_⟩|⟨g',cap,cur,h',hb,hg,hnc,hcm,hcs,htake⟩
 ·cases h'
 ·cases h';have hlt:g<w.heap.size:=by
   rcases Nat.lt_or_ge g w.heap.size with hlt|hge
   ·exact hlt
   ·rw[Array.getElem?_eq_none hge] at hg;cases hg
  have hcell:∀i,i<n→∀j,j<2→w.cell? ⟨g,i*2+j,none⟩=(encG (gat l i))[j]?:=by
   intro i hi j hj;have hlt:i*2+j<n*2:=by omega
   rw[cell_of_row w g (i*2+j) cur _ (0,0) hg,←zlW l i j (by omega) hj,←htake,List.getElem?_take,if_pos hlt];simp
  refine⟨hb,hlt,fun i hi=>⟨hcell i hi 0 (by omega),hcell i hi 1 (by omega)⟩,fun o=>frozen_of_row _ _ _ _ _ hg,?_⟩;intro o v hv k e;subst e;rw[cell_of_row w g o cur _ (0,0) hg] at hv;have ho:o<n*2:=by
   have:=(Array.getElem?_eq_some_iff.1 hv).1;omega
  have h2:(gvcs l)[o]?=some (.int .u32 k):=by
   rw[←htake,List.getElem?_take,if_pos ho,Array.getElem?_toList];exact hv
  have h3:(Value.int .u32 k)∈gvcs l:=List.mem_of_getElem? h2;obtain⟨x,_,hx⟩:=List.mem_flatMap.1 h3;simp[encG] at hx
theorem OwnG.kept {w w':World}{base g n:Nat}{l:List Gv}(h:OwnG w base g n l){row:Option Nat}(hg:w.grownBy w' row)(hv:row≠some g):OwnG w' base g n l :=
 ⟨h.1,World.ownsRow.kept h.2 hg (.inr fun e=>hv e.symm)⟩
theorem OwnG.next {w w':World}{base g n:Nat}{l:List Gv}(h:OwnG w base g n l)(hb:Below w.heap.size w w'):OwnG w' base g n l:=h.kept (gbN hb) (by simp)
theorem OwnG.put {w:World}{base g n:Nat}{L:List Gv}(h:OwnG w base g n L){i:Nat}(hi:i<n)(v:Gv) :
  OwnG ((w.setCell ⟨g,i*2,none⟩ (.bool v.s)).setCell ⟨g,i*2+1,none⟩ (.slice v.a v.xs.length v.c)) base g n (L.set i v):=by
 refine⟨by rw[List.length_set];exact h.1,?_⟩;rw[znq L i v (by rw[h.1];exact hi)];exact((h.2.stored (i*2) (.bool v.s)).1.stored (i*2+1) (.slice v.a v.xs.length v.c)).1
theorem zyQ (n:Nat):(madeCells (gvv gv0).cells (n*2)).toList=gvcs (List.replicate n gv0):=by
 refine List.ext_getElem? fun t=>?_;by_cases ht:t<n*2
 ·obtain⟨i,j,rfl,hj⟩:∃i j,t=i*2+j∧j<2:=⟨t / 2,t%2,by omega,by omega⟩;rw[zlW _ i j (by rw[List.length_replicate];omega) hj];have e1:gat (List.replicate n gv0) i=gv0:=by
   unfold gat;rw[List.getElem?_replicate,if_pos (by omega)];rfl
  rw[e1];simp only[madeCells,Array.getElem?_toList]
  match j,hj with
  | 0,_ =>
   simp only[Nat.add_zero] at ht ⊢;simp[ht,gv0,encG,Value.cells,show i*2%2=0 by omega]
  | 1,_=>simp[ht,gv0,encG,Value.cells,show(i*2+1)%2=1 by omega]
 ·rw[List.getElem?_eq_none (by rw[Array.length_toList,size_madeCells];omega),List.getElem?_eq_none (by rw[zty,List.length_replicate];omega)]
theorem OwnG.made {w:World}{base g n:Nat}(h:w.ownsRow base 69 2 (.slice (some ⟨g,0,none⟩) n n) n (madeCells (gvv gv0).cells (n*2)).toList):OwnG w base g n (List.replicate n gv0) :=
 ⟨List.length_replicate,by rw[←zyQ];exact h⟩
theorem zfN {L:List Gv}{i:Nat}(h:i<L.length)(u:Gv):gat (L.set i u) i=u:=by
 unfold gat;rw[List.getElem?_set,if_pos rfl,if_pos h];rfl
theorem zio {L:List Gv}{i j:Nat}(h:i≠j)(u:Gv):gat (L.set i u) j=gat L j:=by
 unfold gat;rw[List.getElem?_set,if_neg h]
structure GIn (W:World)(v:Gv)(m:Int):Prop where
 us:Us W v.a v.c v.xs
 cn:zaC v.s v.xs
 v:ival v.s v.xs=m
theorem GIn.next {W W1:World}{v:Gv}{m:Int}(h:GIn W v m)(k:Below W.heap.size W W1):GIn W1 v m:=⟨h.us.below k,h.cn,h.v⟩
theorem GIn.over {W W1:World}{v:Gv}{m:Int}{g:Nat}(h:GIn W v m)(hg:∀o v,W.cell? ⟨g,o,none⟩=some v→∀k,v≠.int .u32 k)(hk:W.grownBy W1 (some g)):GIn W1 v m :=
 ⟨zbt h.us (fun q h1 h2=>hk.block q h1 (fun e=>h2 (by cases e;rfl))) hk.size (zbS h.us hg),h.cn,h.v⟩
end Go.Proofs.YtbabbmdpgpcgjaaGreatDoor

namespace Go.Proofs.YtbabbmdpgpcgjaaGreatDoor
open Nds
def zcu:Tr→Int→Int→List Cl
 | .e,_,_=>[]
 | .s k,X,Y=>[⟨X,Y,k⟩]
 | .n v a b c d,X,Y=>zcu a X Y++zcu b (X+p2 (v.toNat-1)) Y++zcu c X (Y+p2 (v.toNat-1))++zcu d (X+p2 (v.toNat-1)) (Y+p2 (v.toNat-1))
def zaV:Tr→Nat
 | .e=>0
 | .s _=>1
 | .n _ a b c d=>zaV a+zaV b+zaV c+zaV d
theorem zdF:∀(t:Tr) (X Y:Int),(zcu t X Y).length=zaV t
 | .e,_,_=>rfl
 | .s k,_,_=>rfl
 | .n v a b c d,X,Y=>by
  show(zcu a X Y++zcu b (X+p2 (v.toNat-1)) Y++zcu c X (Y+p2 (v.toNat-1))++zcu d (X+p2 (v.toNat-1)) (Y+p2 (v.toNat-1))).length=zaV a+zaV b+zaV c+zaV d;rw[List.length_append,List.length_append,List.length_append,zdF a,zdF b,zdF c,zdF d]
theorem zqz:∀(l m:List Cl) (x y:Int),lk (l++m) x y=if (∃c∈l,c.x=x∧c.y=y) then lk l x y else lk m x y
 | [],m,x,y=>by
  rw[if_neg (by rintro⟨c,hc,_⟩;cases hc)];rfl
 | a :: l,m,x,y=>by
  show(if a.x=x∧a.y=y then a.s else lk (l++m) x y)=if _ then (if a.x=x∧a.y=y then a.s else lk l x y) else _
  by_cases ha:a.x=x∧a.y=y
  ·rw[if_pos ha,if_pos ⟨a,by simp,ha⟩,if_pos ha]
  ·rw[if_neg ha,zqz l m x y];by_cases hl:∃c∈l,c.x=x∧c.y=y
   ·obtain⟨c,hc,h⟩:=hl;rw[if_pos ⟨c,hc,h⟩,if_pos ⟨c,by simp[hc],h⟩,if_neg ha]
   ·rw[if_neg hl,if_neg];rintro⟨c,hc,h⟩;rcases List.mem_cons.1 hc with rfl|hc
    ·exact ha h
    ·exact hl ⟨c,hc,h⟩
theorem zhe {X Y h:Int}{l m:List Cl}(hl:∀c∈l,sqB X Y h c=true)(hm:∀c∈m,sqB X Y h c=false)(x y:Int):lk (l++m) x y=lk l x y+lk m x y:=by
 rw[zqz];by_cases he:∃c∈l,c.x=x∧c.y=y
 ·rw[if_pos he];obtain⟨c,hc,h1⟩:=he;have h2:=zds.1 (hl c hc);rw[zbr (l:=m) (fun d hd e=>by
   have h3:=hm d hd;have h4:sqB X Y h d=true:=zds.2 (by rw[e.1,e.2,←h1.1,←h1.2];exact h2);rw[h4] at h3;cases h3)]
  omega
 ·rw[if_neg he,zbr (l:=l) (fun d hd e=>he ⟨d,hd,e⟩)];omega
theorem zcU:∀(t:Tr) (n:Nat) (X Y:Int),wfT (n:Int) t→Fine (zcu t X Y)∧(∀c∈zcu t X Y,sqB X Y (p2 n) c=true)∧∀x y,lk (zcu t X Y) x y=zae t (x-X) (y-Y)
 | .e,_,_,_,_=>⟨⟨fun c hc=>absurd hc (List.not_mem_nil),List.Pairwise.nil⟩,fun c hc=>absurd hc (List.not_mem_nil),fun x y=>rfl⟩
 | .s k,n,X,Y,hw=>by
  have hn:(n:Int)=0:=hw.1;have:n=0:=by omega
  subst this;refine⟨⟨fun c hc=>?_,List.pairwise_singleton _ _⟩,fun c hc=>?_,fun x y=>?_⟩
  ·rw[List.mem_singleton.1 hc];exact⟨hw.2.1,hw.2.2⟩
  ·rw[List.mem_singleton.1 hc,zds,zft];show X≤X∧X<X+1∧Y≤Y∧Y<Y+1;omega
  ·show(if X=x∧Y=y then k else 0)=if x-X=0∧y-Y=0 then k else 0
   by_cases h:X=x∧Y=y
   ·rw[if_pos h,if_pos (by omega)]
   ·rw[if_neg h,if_neg (by omega)]
 | .n v a b c d,n,X,Y,hw=>by
  obtain⟨m,rfl,rfl,ha,hb,hc,hd,_⟩:=wf_n hw;have hp:=zaz m;have ep:=zap m;obtain⟨fa,sa,ka⟩:=zcU a m X Y ha;obtain⟨fb,sb,kb⟩:=zcU b m (X+p2 m) Y hb;obtain⟨fc,sc,kc⟩:=zcU c m X (Y+p2 m) hc;obtain⟨fd,sd,kd⟩:=zcU d m (X+p2 m) (Y+p2 m) hd;have e:((m:Int)+1).toNat-1=m:=by omega
  have el:zcu (.n ((m:Int)+1) a b c d) X Y=zcu a X Y++zcu b (X+p2 m) Y++zcu c X (Y+p2 m)++zcu d (X+p2 m) (Y+p2 m):=by
   show zcu a X Y++zcu b (X+p2 (((m:Int)+1).toNat-1)) Y++zcu c X (Y+p2 (((m:Int)+1).toNat-1))++zcu d (X+p2 (((m:Int)+1).toNat-1)) (Y+p2 (((m:Int)+1).toNat-1))=_;rw[e]
  rw[el];have apart:∀{l1 l2:List Cl} {X1 Y1 X2 Y2:Int},(∀c∈l1,sqB X1 Y1 (p2 m) c=true)→(∀c∈l2,sqB X2 Y2 (p2 m) c=true)→(X1+p2 m≤X2∨X2+p2 m≤X1∨Y1+p2 m≤Y2∨Y2+p2 m≤Y1)→∀c∈l1,∀d∈l2,¬ (c.x=d.x∧c.y=d.y):=fun h1 h2 h3 c hc d hd e=>by
   have a1:=zds.1 (h1 c hc);have a2:=zds.1 (h2 d hd);omega
  have outOf:∀{l2:List Cl} {X1 Y1 X2 Y2:Int},(∀c∈l2,sqB X2 Y2 (p2 m) c=true)→(X1+p2 m≤X2∨X2+p2 m≤X1∨Y1+p2 m≤Y2∨Y2+p2 m≤Y1)→∀c∈l2,sqB X1 Y1 (p2 m) c=false:=fun h2 h3 c hc=>by
   have a2:=zds.1 (h2 c hc);cases hq:sqB _ _ (p2 m) c
   ·rfl
   ·have:=zds.1 hq;omega
  refine⟨⟨fun q hq=>?_,?_⟩,fun q hq=>?_,fun x y=>?_⟩
  ·rcases List.mem_append.1 hq with hq|hq
   ·rcases List.mem_append.1 hq with hq|hq
    ·rcases List.mem_append.1 hq with hq|hq
     ·exact fa.1 q hq
     ·exact fb.1 q hq
    ·exact fc.1 q hq
   ·exact fd.1 q hq
  ·rw[List.pairwise_append,List.pairwise_append,List.pairwise_append];refine⟨⟨⟨fa.2,fb.2,apart sa sb (by omega)⟩,fc.2,fun q hq=>?_⟩,fd.2,fun q hq=>?_⟩
   ·rcases List.mem_append.1 hq with hq|hq
    ·exact apart sa sc (by omega) q hq
    ·exact apart sb sc (by omega) q hq
   ·rcases List.mem_append.1 hq with hq|hq
    ·rcases List.mem_append.1 hq with hq|hq
     ·exact apart sa sd (by omega) q hq
     ·exact apart sb sd (by omega) q hq
    ·exact apart sc sd (by omega) q hq
  ·rw[zds,zap];rcases List.mem_append.1 hq with hq|hq
   ·rcases List.mem_append.1 hq with hq|hq
    ·rcases List.mem_append.1 hq with hq|hq
     ·have:=zds.1 (sa q hq);omega
     ·have:=zds.1 (sb q hq);omega
    ·have:=zds.1 (sc q hq);omega
   ·have:=zds.1 (sd q hq);omega
  ·rw[List.append_assoc,List.append_assoc,zhe sa (fun q hq=>by
    rcases List.mem_append.1 hq with hq|hq
    ·exact outOf sb (by omega) q hq
    ·rcases List.mem_append.1 hq with hq|hq
     ·exact outOf sc (by omega) q hq
     ·exact outOf sd (by omega) q hq),zhe sb (fun q hq=>by
    rcases List.mem_append.1 hq with hq|hq
    ·exact outOf sc (by omega) q hq
    ·exact outOf sd (by omega) q hq),zhe sc (fun q hq=>outOf sd (by omega) q hq),ka,kb,kc,kd,zcq ha hb hc hd]
   rw[show x-(X+p2 m)=x-X-p2 m by omega,show y-(Y+p2 m)=y-Y-p2 m by omega];omega
end Go.Proofs.YtbabbmdpgpcgjaaGreatDoor
