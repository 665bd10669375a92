import Derived.Test.YtfjajpnfjjdnpaaGreatDoorVBgP

set_option linter.unusedVariables false
set_option linter.unusedSimpArgs false
set_option maxRecDepth 100000
set_option maxHeartbeats 6400000
namespace Go.Proofs.YtfjajpnfjjdnpaaGreatDoor
open Go.RowKit Nds Num
theorem Ky.usP {P:Nat→Prop}{w w':World}(h:Ky P w w'){A:Option Addr}{c:Nat}{xs:List Nat}(u:Us w A c xs)(hp:0<xs.length→∀a,A=some a→¬ P a.block):Us w' A c xs :=
 ⟨u.1,u.2.1,u.2.2.1,fun hn=>by
  obtain⟨b,off,e,hlt,hc⟩:=u.2.2.2 hn;exact⟨b,off,e,Nat.lt_of_lt_of_le hlt h.size,fun j v hv=>h.cell (hc j v hv) (show ¬ P b from hp (by simpa using hn) ⟨b,off,none⟩ e)⟩⟩
theorem Ky.hxP {P:Nat→Prop}{w w':World}(h:Ky P w w'){g:Nat}{s:Bool}{A:Option Addr}{c:Nat}{xs:List Nat}{n:Int}(x:HX w g s A c xs n)(hg:¬ P g)(hp:0<xs.length→∀a,A=some a→¬ P a.block):HX w' g s A c xs n :=
 ⟨(h.block g x.lt hg).trans x.box,h.usP x.us hp,x.cn,x.v,x.off⟩
theorem Ky.csP {P:Nat→Prop}{w w':World}(h:Ky P w w'){A:Option Addr}{c:Nat}{l:List Cv}(k:Cs w A c l)(hl:∀u∈l,(0<u.xs.length→∀a,u.ax=some a→¬ P a.block)∧(0<u.ys.length→∀a,u.ay=some a→¬ P a.block))(hb:0<l.length→∀a,A=some a→¬ P a.block):Cs w' A c l :=
 ⟨fun u hu=>⟨h.usP (k.1 u hu).1 (hl u hu).1,h.usP (k.1 u hu).2.1 (hl u hu).2,(k.1 u hu).2.2⟩,k.2.1,k.2.2.1,fun hn=>by
  obtain⟨b,off,e,hlt,hc⟩:=k.2.2.2 hn;exact⟨b,off,e,Nat.lt_of_lt_of_le hlt h.size,fun i hi=>(hc i hi).below (h.block b hlt (hb hn _ e))⟩⟩
def zjP (M:Nat)(out:List Nd)(X Y:Int)(L:List Cl)(base:Nat)(v:Value)(w:World)(e:Ending)(w':World):Prop :=
 ∃v',e=.returned (.tuple #[v',.int .i64 (zar M out X Y L).2])∧OwnN w' base v' (zar M out X Y L).1∧(∀k,v'.ownBlock=some k→v.ownBlock=some k∨w.heap.size≤k)∧Ky (fun k=>v.ownBlock=some k) w w'
theorem zmp (base M:Nat)(out:List Nd)(v:Value)(lv:Int)(Ax Ay B:Option Addr)(cx cy d:Nat)(sx sy:Bool)(xs ys:List Nat)(X Y:Int)(w:World)(h:OwnN w base v out) :
  Calls Tryz.prog 145 #[v,.int .i64 lv,.agg #[.bool sx,.slice Ax xs.length cx],.agg #[.bool sy,.slice Ay ys.length cy],.slice B 0 d] w (zjP M out X Y [] base v w):=by
 have hb:Ky (fun k=>v.ownBlock=some k) w ((w.alloc (.cells #[.bool sx,.slice Ax xs.length cx] 48)).alloc (.cells #[.bool sy,.slice Ay ys.length cy] 48)):=((Ky.refl _ _).alloc _).alloc _;have HB:=Hh hb;have HO:=Hh ((h.alloc (.cells #[.bool sx,.slice Ax xs.length cx] 48)).alloc (.cells #[.bool sy,.slice Ay ys.length cy] 48));obtain⟨R,hR⟩:∃R,R=zjP M out X Y [] base v w:=⟨_,rfl⟩;rw[←hR];have HR:=Hh hR;clear hb h hR;go_enter Tryz.func145,Tryz.ntmps145;go_wp2_with fail
 first|go_ret2|skip
 rw[HR.out];unfold zjP;rw[zeG];exact⟨v,rfl,HO.out,fun k hk=>.inl hk,HB.out⟩
structure FarP (B0:Nat)(v0:Value)(Ax:Option Addr)(xs:List Nat)(Ay:Option Addr)(ys:List Nat)(B:Option Addr)(l:List Cv):Prop where
 fv:∀q,v0.ownBlock=some q→q<B0
 fx:0<xs.length→∀a,Ax=some a→a.block<B0∧v0.ownBlock≠some a.block
 fy:0<ys.length→∀a,Ay=some a→a.block<B0∧v0.ownBlock≠some a.block
 fl:∀u∈l,(0<u.xs.length→∀a,u.ax=some a→a.block<B0∧v0.ownBlock≠some a.block)∧(0<u.ys.length→∀a,u.ay=some a→a.block<B0∧v0.ownBlock≠some a.block)
 fb:0<l.length→∀a,B=some a→a.block<B0∧v0.ownBlock≠some a.block
structure PlJ (w:World)(base:Nat)(v0:Value)(B:Option Addr)(d:Nat)(l:List Cv)(sx:Bool)(Ax:Option Addr)(cx:Nat)(xs:List Nat)(X:Int)(sy:Bool)(Ay:Option Addr)(cy:Nat)(ys:List Nat)(Y:Int)(gh:Nat)(sh:Bool)(Ah:Option Addr)(ch:Nat)(hs:List Nat)(m gn:Nat)(y:Nd)(k:Nat)(v:Value)(o:List Nd)(W:World):Prop where
 b:Ky (fun q=>v0.ownBlock=some q) w W
 cs:Cs W B d l
 bx:HX W w.heap.size sx Ax cx xs X
 by_:HX W (w.heap.size+1) sy Ay cy ys Y
 bh:HX W gh sh Ah ch hs (p2 m)
 lt:w.heap.size+1<gh
 ln:gh<gn
 hl:0<hs.length→∀a,Ah=some a→w.heap.size≤a.block∧a.block<gn
 nb:zaX W gn (mix ⟨(m:Int)+1,0,0,0,0⟩ y k)
 o:OwnN W base v o
 ob:∀q,v.ownBlock=some q→v0.ownBlock=some q∨gn<q
section
variable {w:World} {base:Nat} {v0:Value} {B:Option Addr} {d:Nat} {l:List Cv} {sx:Bool} {Ax:Option Addr} {cx:Nat} {xs:List Nat} {X:Int} {sy:Bool} {Ay:Option Addr} {cy:Nat} {ys:List Nat} {Y:Int} {gh:Nat} {sh:Bool} {Ah:Option Addr} {ch:Nat} {hs:List Nat} {m gn:Nat} {y:Nd} {k:Nat} {v:Value} {o:List Nd} {W W1:World}
theorem PlJ.nextP (h:PlJ w base v0 B d l sx Ax cx xs X sy Ay cy ys Y gh sh Ah ch hs m gn y k v o W)(q:Below W.heap.size W W1):PlJ w base v0 B d l sx Ax cx xs X sy Ay cy ys Y gh sh Ah ch hs m gn y k v o W1 :=
 ⟨h.b.below q,h.cs.below q,h.bx.next q,h.by_.next q,h.bh.next q,h.lt,h.ln,h.hl,h.nb.stay (q.block gn h.nb.lt),h.o.stays q,h.ob⟩
theorem PlJ.keepP {P:Nat→Prop}(h:PlJ w base v0 B d l sx Ax cx xs X sy Ay cy ys Y gh sh Ah ch hs m gn y k v o W)(F:FarP w.heap.size v0 Ax xs Ay ys B l)(hk:Ky P W W1)(hP:∀t,t<gn→(t<w.heap.size→v0.ownBlock≠some t)→¬ P t) :
  Cs W1 B d l∧HX W1 w.heap.size sx Ax cx xs X∧HX W1 (w.heap.size+1) sy Ay cy ys Y∧HX W1 gh sh Ah ch hs (p2 m):=by
 have h1:=h.lt;have h2:=h.ln;have old:∀t,t<w.heap.size∧v0.ownBlock≠some t→¬ P t:=fun t ht=>hP t (by omega) (fun _=>ht.2);exact⟨hk.csP h.cs (fun u hu=>⟨fun h0 a ea=>old _ ((F.fl u hu).1 h0 a ea),fun h0 a ea=>old _ ((F.fl u hu).2 h0 a ea)⟩) (fun h0 a ea=>old _ (F.fb h0 a ea)),
  hk.hxP h.bx (hP _ (by omega) (fun e=>absurd e (by omega))) (fun h0 a ea=>old _ (F.fx h0 a ea)),
  hk.hxP h.by_ (hP _ (by omega) (fun e=>absurd e (by omega))) (fun h0 a ea=>old _ (F.fy h0 a ea)),
  hk.hxP h.bh (hP _ h2 (fun e=>absurd e (by omega))) (fun h0 a ea=>hP _ (h.hl h0 a ea).2 (fun e=>absurd e (by have:=(h.hl h0 a ea).1;omega)))⟩
theorem PlJ.offP (h:PlJ w base v0 B d l sx Ax cx xs X sy Ay cy ys Y gh sh Ah ch hs m gn y k v o W){t:Nat}(ht:t≤gn)(hv:t<w.heap.size→v0.ownBlock≠some t)(hf:∀q,v0.ownBlock=some q→q<w.heap.size):v.ownBlock≠some t:=fun e=>by
 rcases h.ob t e with e2|e2
 ·exact hv (hf t e2) e2
 ·omega
theorem PlJ.callP {v2:Value}{o2:List Nd}(h:PlJ w base v0 B d l sx Ax cx xs X sy Ay cy ys Y gh sh Ah ch hs m gn y k v o W)(F:FarP w.heap.size v0 Ax xs Ay ys B l)(hk:Ky (fun q=>v.ownBlock=some q) W W1)(ho:OwnN W1 base v2 o2)(h2:∀q,v2.ownBlock=some q→v.ownBlock=some q∨W.heap.size≤q) :
  PlJ w base v0 B d l sx Ax cx xs X sy Ay cy ys Y gh sh Ah ch hs m gn y k v2 o2 W1:=by
 have h0:=h.lt;have h1:=h.ln;have hgn:=h.nb.lt;obtain⟨k1,k2,k3,k4⟩:=h.keepP F hk fun t ht hv=>h.offP (by omega) hv F.fv;refine⟨h.b.trans hk (fun i hi e=>?_),k1,k2,k3,k4,h0,h1,h.hl,h.nb.stay (hk.block gn hgn (h.offP (Nat.le_refl _) (fun e=>absurd e (by omega)) F.fv)),ho,fun q hq=>?_⟩
 ·rcases h.ob i e with e2|e2
  ·exact e2
  ·omega
 ·rcases h2 q hq with e|e
  ·exact h.ob q e
  ·exact .inr (by omega)
theorem PlJ.putP (h:PlJ w base v0 B d l sx Ax cx xs X sy Ay cy ys Y gh sh Ah ch hs m gn y k v o W)(F:FarP w.heap.size v0 Ax xs Ay ys B l)(hk4:k<4){r:Nat}(hr:r=1+k){u:Int}(hu:u=y.kid k) :
  PlJ w base v0 B d l sx Ax cx xs X sy Ay cy ys Y gh sh Ah ch hs m gn y (k+1) v o (W.setCell ⟨gn,r,none⟩ (.int .i64 u)):=by
 have h0:=h.lt;have h1:=h.ln;have hk:Ky (fun q=>q=gn) W (W.setCell ⟨gn,r,none⟩ (.int .i64 u)):=Ky.set (P:=fun q=>q=gn) (Ky.refl _ _) ⟨gn,r,none⟩ (fun _=>rfl) _;obtain⟨k1,k2,k3,k4⟩:=h.keepP F hk fun t ht _ e=>by omega
 exact⟨h.b.set _ (fun e=>absurd (show gn<w.heap.size from e) (by omega)) _,k1,k2,k3,k4,h0,h1,h.hl,h.nb.setKid hk4 hr hu,h.o.gbr (zbu _ _ _) (.inr (show v.ownBlock≠some gn from h.offP (Nat.le_refl _) (fun e=>absurd e (by omega)) F.fv)),h.ob⟩
end
def sqC (X Y h:Int)(u:Cv):Bool:=sqB X Y h u.cl
theorem zsN (X Y h:Int)(l:List Cv):(l.filter (sqC X Y h)).map Cv.cl=(l.map Cv.cl).filter (sqB X Y h):=by
 rw[List.filter_map];rfl
theorem zgh {l:List Cv}{p:Cv→Bool}{i:Nat}(hi:i<l.length):(l.take (i+1)).filter p=(l.take i).filter p++(if p (cat l i)=true then [cat l i] else []):=by
 rw[List.take_succ_eq_append_getElem hi,List.filter_append];have e:cat l i=l[i]:=by
  unfold cat;rw[List.getElem?_eq_getElem hi];rfl
 rw[e];congr 1;by_cases hp:p l[i]=true
 ·rw[if_pos hp,List.filter_cons_of_pos hp,List.filter_nil]
 ·rw[if_neg hp,List.filter_cons_of_neg hp,List.filter_nil]
theorem zgz {w w':World}(hb:Below w.heap.size w w'){p:Addr}{u:Value}(h:w.cell? p=some u):w'.cell? p=some u:=(hb.cell (p:=p) (World.block_lt_of_cell? w p h)).trans h
end Go.Proofs.YtfjajpnfjjdnpaaGreatDoor
