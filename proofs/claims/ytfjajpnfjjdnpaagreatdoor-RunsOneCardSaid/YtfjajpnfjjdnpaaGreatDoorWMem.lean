import GoSem.Claim
import Derived.Test.YtfjajpnfjjdnpaaGreatDoorRows
import Derived.Laws.RangeAny
import Derived.Laws.Strings
import Derived.Laws.Strings2
import Derived.Laws.Strings3
import Derived.Lib.Strings
import Derived.Lib.Bytealg
import Derived.Lib.OthersKept
import Derived.Deep.QuietTactic
import Derived.BigQuiet
import Derived.LoopTactic
import Derived.WalkKit
import Derived.Test.YtfjajpnfjjdnpaaGreatDoorWLen32
import Derived.WalkSpells
import Derived.WalkLawsBesides
import Derived.Deep.Draws
import Derived.Maps.AppendAt
import Derived.Test.YtfjajpnfjjdnpaaGreatDoorWTk

set_option linter.unusedVariables false
set_option linter.unusedSimpArgs false
set_option maxRecDepth 100000
set_option maxHeartbeats 6400000
namespace Go.Proofs.YtfjajpnfjjdnpaaGreatDoor
namespace Txt
def sgn (b:UInt8):Bool:=decide (33≤b.toNat∧b.toNat≤126)
def zcH (l:List UInt8):Bool:=decide (1≤l.length∧l.length≤40)&&l.all sgn
theorem znZ {l:List UInt8}{k:Nat}{b:UInt8}(hb:l[k]?=some b)(h:sgn b=false):l.all sgn=false:=by
 rw[Bool.eq_false_iff];intro h1;have:=List.all_eq_true.1 h1 b (List.mem_of_getElem? hb);rw[h] at this;cases this
theorem zlu {l:List UInt8}(h:∀b∈l.take l.length,sgn b=true):l.all sgn=true:=by
 rw[List.take_length] at h;exact List.all_eq_true.2 h
theorem zlv {l:List UInt8}{k:Nat}{b:UInt8}(h:l[k]?=some b)(hd:sgn b=true)(hp:∀x∈l.take k,sgn x=true):∀x∈l.take (k+1),sgn x=true:=by
 intro x hx;rw[List.take_add_one,h] at hx;rcases List.mem_append.1 hx with hx|hx
 ·exact hp x hx
 ·simp at hx;rw[hx];exact hd
end Txt
end Go.Proofs.YtfjajpnfjjdnpaaGreatDoor

namespace Go.Proofs.YtfjajpnfjjdnpaaGreatDoor
open Go.RowKit Txt
theorem zeg {s:ByteArray}{k:Nat}(h:k<s.size):s.data.toList[k]?=some (s[k]'h):=by
 rw[List.getElem?_eq_getElem (by simpa using h)];rfl
theorem zaU (s:ByteArray):s.data.toList.length=s.size:=by simp
theorem tx_b {a b:Bool}(h:a=b):Ending.returned (.bool a)=.returned (.bool b):=by rw[h]
theorem zij (b:UInt8):sgn b=decide (33≤(b.toNat:Int)∧(b.toNat:Int)≤126):=by
 unfold sgn;exact decide_eq_decide.2 ⟨fun h=>by omega,fun h=>by omega⟩
theorem zlw (n:Int)(w:World) :
  Calls Tryz.prog 168 #[.int .u8 n] w fun e w'=>e=.returned (.bool (decide (33≤n∧n≤126)))∧w=w':=by
 go_enter Tryz.func168,Tryz.ntmps168;rcases(show n<33∨(33≤n∧n≤126)∨(33≤n∧126<n) by omega) with h|h|h
 all_goals
  go_wp2;go_ret;refine⟨tx_b ?_,rfl⟩;simp;omega
theorem zgh (n:Int)(w:World) :
  Calls Tryz.prog 97 #[.int .u8 n] w fun e w'=>e=.returned (.bool (decide (33≤n∧n≤126)))∧w=w':=by
 go_enter Tryz.func97,Tryz.ntmps97;rcases(show n<33∨(33≤n∧n≤126)∨(33≤n∧126<n) by omega) with h|h|h
 all_goals
  go_wp2;go_ret;refine⟨tx_b ?_,rfl⟩;simp;omega
theorem zlx (s:ByteArray)(w:World)(hs:s.size≤maxLen) :
  Calls Tryz.prog 127 #[.string s] w fun e w'=>e=.returned (.bool (zcH s.data.toList))∧w=w':=by
 have hl:=zaU s;unfold maxLen at hs;go_enter Tryz.func127,Tryz.ntmps127;rcases(show s.size=0∨40<s.size∨(1≤s.size∧s.size≤40) by omega) with h|h|h
 ·have h1:(s.toList==[])=true:=by
   rw[ByteArray.toList_eq,List.eq_nil_of_length_eq_zero (by omega:s.data.toList.length=0)];rfl
  have hr:zcH s.data.toList=false:=by
   unfold zcH;rw[decide_eq_false (by omega)];rfl
  rw[hr];clear hr hl;go_wp2;go_ret;exact⟨rfl,rfl⟩
 ·have h1:(s.toList==[])=false:=by
   rw[ByteArray.toList_eq];refine beq_eq_false_iff_ne.2 (fun e=>?_);rw[e] at hl;simp at hl;omega
  have hr:zcH s.data.toList=false:=by
   unfold zcH;rw[decide_eq_false (by omega)];rfl
  rw[hr];clear hr hl;go_wp2;go_ret;exact⟨rfl,rfl⟩
 ·have h1:(s.toList==[])=false:=by
   rw[ByteArray.toList_eq];refine beq_eq_false_iff_ne.2 (fun e=>?_);rw[e] at hl;simp at hl;omega
  have hr:zcH s.data.toList=s.data.toList.all sgn:=by
   unfold zcH;rw[decide_eq_true (by omega)];rfl
  obtain⟨R,hR⟩:∃R,R=zcH s.data.toList:=⟨_,rfl⟩;rw[←hR];rw[hr] at hR;have HR:=Hh hR;clear hr hR;go_wp2;go_loop [3,13] (fun v i=>∃(k:Nat) (z:Value),k≤s.size∧v=z∧i=.int .i64 k∧(∀b∈s.data.toList.take k,sgn b=true)) (fun _ i=>s.size-(intOf i).toNat)
  case atStart=>exact⟨0,_,Nat.zero_le _,rfl,rfl,by simp⟩
  case round =>
   obtain⟨k,z,hk,rfl,rfl,hd⟩:=hrel;have HD:=Hh hd;have HL:=Hh hl;clear hd hl;by_cases hlt:k<s.size
   ·have HG:=Hh (zeg hlt);cases hb:sgn (s[k]'hlt) with
    | true =>
     have HB:=Hh hb;rw[zij] at hb;go_wp2_with (go_at_call 168;refine(zlw _ _).mono ?_;rintro e w1 ⟨rfl,rfl⟩;rw[hb]);go_round
     case rel=>exact⟨k+1,_,by omega,rfl,by go_num,zlv HG.out HB.out HD.out⟩
     case measure=>simp[intOf];omega
    | false =>
     have HB:=Hh hb;rw[zij] at hb;go_wp2_with (go_at_call 168;refine(zlw _ _).mono ?_;rintro e w1 ⟨rfl,rfl⟩;rw[hb]);go_ret;exact⟨tx_b (HR.out.trans (znZ HG.out HB.out)).symm,rfl⟩
   ·go_wp2;go_ret;refine⟨tx_b (HR.out.trans (zlu ?_)).symm,rfl⟩;rw[HL.out,show s.size=k by omega];exact HD.out
theorem zoa (s:ByteArray)(w:World)(hs:s.size≤maxLen) :
  Calls Tryz.prog 50 #[.string s] w fun e w'=>e=.returned (.bool (zcH s.data.toList))∧w=w':=by
 have hl:=zaU s;unfold maxLen at hs;have HL:=Hh hl;clear hl;obtain⟨R,hR⟩:∃R,R=zcH s.data.toList:=⟨_,rfl⟩;rw[←hR];have HR:=Hh hR;clear hR;go_enter Tryz.func50,Tryz.ntmps50;go_wp2;go_loop [3] (fun i=>∃(k:Nat),k≤s.size∧i=.int .i64 k∧(∀b∈s.data.toList.take k,sgn b=true)) (fun i=>s.size-(intOf i).toNat)
 case atStart=>exact⟨0,Nat.zero_le _,rfl,by simp⟩
 case round =>
  obtain⟨k,hk,rfl,hd⟩:=hrel;have HD:=Hh hd;clear hd;by_cases hlt:k<s.size
  ·have HG:=Hh (zeg hlt);cases hb:sgn (s[k]'hlt) with
   | true =>
    have HB:=Hh hb;rw[zij] at hb;go_wp2_with (go_at_call 97;refine(zgh _ _).mono ?_;rintro e w1 ⟨rfl,rfl⟩;rw[hb]);go_round
    case rel=>exact⟨k+1,by omega,by go_num,zlv HG.out HB.out HD.out⟩
    case measure=>simp[intOf];omega
   | false =>
    have HB:=Hh hb;rw[zij] at hb;go_wp2_with (go_at_call 97;refine(zgh _ _).mono ?_;rintro e w1 ⟨rfl,rfl⟩;rw[hb]);go_ret;refine⟨tx_b ?_,rfl⟩;rw[HR.out];unfold zcH;rw[znZ HG.out HB.out,Bool.and_false]
  ·have hf:s.data.toList.all sgn=true:=zlu (by rw[HL.out,show s.size=k by omega];exact HD.out);have hr:zcH s.data.toList=decide (1≤s.size∧s.size≤40):=by
    unfold zcH;rw[hf,Bool.and_true,HL.out]
   have hr2:=HR.out.trans hr;clear hf hr HR;subst hr2;rcases(show s.size<1∨(1≤s.size∧s.size≤40)∨(1≤s.size∧40<s.size) by omega) with h|h|h
   all_goals
    go_wp2;go_ret;refine⟨tx_b ?_,rfl⟩;simp;omega
end Go.Proofs.YtfjajpnfjjdnpaaGreatDoor

namespace Go.Proofs.YtfjajpnfjjdnpaaGreatDoor
open Go.RowKit Num
def Rd (w:World)(A:Option Addr)(c:Nat)(vs:List Value):Prop :=
 vs.length≤c∧c≤maxLen∧(0<vs.length→∃b off,A=some ⟨b,off,none⟩∧b<w.heap.size∧∀j u,vs[j]?=some u→w.cell? ⟨b,off+j,none⟩=some u)
abbrev u32v (x:Nat):Value:=.int .u32 (x:Int)
def Us (w:World)(A:Option Addr)(c:Nat)(xs:List Nat):Prop:=Dig xs∧Rd w A c (xs.map u32v)
def Bl (w:World)(A:Option Addr)(c:Nat)(bs:List Bool):Prop:=Rd w A c (bs.map Value.bool)
theorem Rd.below {w w':World}{A:Option Addr}{c:Nat}{vs:List Value}(h:Rd w A c vs)(hb:Below w.heap.size w w'):Rd w' A c vs :=
 ⟨h.1,h.2.1,fun hn=>by
  obtain⟨b,off,e,hlt,hc⟩:=h.2.2 hn;exact⟨b,off,e,Nat.lt_of_lt_of_le hlt hb.size,fun j u hu=>(hb.cell (p:=⟨b,off+j,none⟩) hlt).trans (hc j u hu)⟩⟩
theorem Us.below {w w':World}{A:Option Addr}{c:Nat}{xs:List Nat}(h:Us w A c xs)(hb:Below w.heap.size w w'):Us w' A c xs:=⟨h.1,h.2.below hb⟩
theorem Bl.below {w w':World}{A:Option Addr}{c:Nat}{bs:List Bool}(h:Bl w A c bs)(hb:Below w.heap.size w w'):Bl w' A c bs:=Rd.below h hb
theorem Rd.nil (w:World):Rd w none 0 []:=⟨Nat.le_refl _,by simp[maxLen],fun h=>absurd h (by simp)⟩
theorem Us.nil (w:World):Us w none 0 []:=⟨Dig.nil,Rd.nil w⟩
theorem Us.cap {w:World}{A:Option Addr}{c:Nat}{xs:List Nat}(h:Us w A c xs):xs.length≤c∧c≤9223372036854775807:=by
 have h1:=h.2.1;have h2:=h.2.2.1;simp only[maxLen,List.length_map] at h1 h2;exact⟨h1,by omega⟩
theorem Bl.cap {w:World}{A:Option Addr}{c:Nat}{xs:List Bool}(h:Bl w A c xs):xs.length≤c∧c≤9223372036854775807:=by
 have h1:=h.1;have h2:=h.2.1;simp only[maxLen,List.length_map] at h1 h2;exact⟨h1,by omega⟩
theorem Us.at_ {w:World}{A:Option Addr}{c:Nat}{xs:List Nat}(h:Us w A c xs)(hn:0<xs.length) :
  ∃b off,A=some ⟨b,off,none⟩∧b<w.heap.size∧∀j,j<xs.length→w.cell? ⟨b,off+j,none⟩=some (.int .u32 (xs[j]?.getD 0:Nat)):=by
 obtain⟨b,off,e,hb,hc⟩:=h.2.2.2 (by simpa using hn);exact⟨b,off,e,hb,fun j hj=>hc j _ (by simp[List.getElem?_eq_getElem hj])⟩
theorem Bl.at_ {w:World}{A:Option Addr}{c:Nat}{xs:List Bool}(h:Bl w A c xs)(hn:0<xs.length) :
  ∃b off,A=some ⟨b,off,none⟩∧b<w.heap.size∧∀j,j<xs.length→w.cell? ⟨b,off+j,none⟩=some (.bool (xs[j]?.getD false)):=by
 obtain⟨b,off,e,hb,hc⟩:=h.2.2 (by simpa using hn);exact⟨b,off,e,hb,fun j hj=>hc j _ (by simp[List.getElem?_eq_getElem hj])⟩
theorem Rd.own {w:World}{base:Nat}{e:TypeId}{A:Option Addr}{n c:Nat}{vs:List Value}(h:w.ownsRow base e 1 (.slice A n c) n vs):Rd w A c vs:=by
 have hl:vs.length=n:=by simpa using h.1
 rcases h.2 with⟨h',hn⟩|⟨g,cap,cur,h',hb,hg,hnc,hcm,hcs,htake⟩
 ·simp only[Value.slice.injEq] at h';obtain⟨rfl,rfl,rfl⟩:=h';exact⟨by omega,by simp[maxLen],fun h=>by omega⟩
 ·simp only[Value.slice.injEq,true_and] at h';obtain⟨rfl,rfl⟩:=h';refine⟨by omega,hcm,fun hn=>⟨g,0,rfl,?_,fun j u hu=>?_⟩⟩
  ·rcases Nat.lt_or_ge g w.heap.size with hlt|hge
   ·exact hlt
   ·rw[Array.getElem?_eq_none hge] at hg;cases hg
  ·rw[Nat.zero_add];have hj:j<vs.length:=by
    rcases Nat.lt_or_ge j vs.length with hlt|hge
    ·exact hlt
    ·rw[List.getElem?_eq_none hge] at hu;cases hu
   exact(h.cellAt j (by omega)).trans hu
theorem zcI {w:World}{base:Nat}{e:TypeId}{v:Value}{n:Nat}{vs:List Value}(h:w.ownsRow base e 1 v n vs):∃A c,v=.slice A n c:=by
 rcases h.2 with⟨rfl,rfl⟩|⟨g,cap,cur,rfl,_⟩
 ·exact⟨_,_,rfl⟩
 ·exact⟨_,_,rfl⟩
theorem zaa {B:Nat}{a w:World}(h:Below B a w)(n:Nat):Below B a (w.drewN n):=⟨h.os,h.tape,h.output,h.size,h.block⟩
theorem zaQ (w:World)(v:Value)(t:TypeId):(w.alloc (.cells #[v] t)).cell? ⟨w.heap.size,0,none⟩=some v∧(w.alloc (.cells #[v] t)).frozen? ⟨w.heap.size,0,none⟩=false:=by
 have h:=heap_alloc_new w (.cells #[v] t);exact⟨by rw[cell_of_row _ _ _ _ _ _ h];rfl,frozen_of_row _ _ _ _ _ h⟩
theorem zao {w:World}{p:Addr}{v:Value}(h:w.cell? p=some v):p.block<w.heap.size:=by
 rcases Nat.lt_or_ge p.block w.heap.size with hlt|hge
 ·exact hlt
 ·simp[World.cell?,Array.getElem?_eq_none hge] at h
theorem zaK {w:World}{p:Addr}{v:Value}(o:Obj)(h:w.cell? p=some v):(w.alloc o).cell? p=some v:=(World.cell?_alloc_lt w o p (zao h)).trans h
theorem zcC {w:World}{p:Addr}{v:Value}{b:Bool}(o:Obj)(h:w.cell? p=some v)(hf:w.frozen? p=b):(w.alloc o).frozen? p=b :=
 (World.frozen?_of_block (Below.heap_alloc w o p.block (zao h))).trans hf
def RetU (n:Nat)(w:World)(e:Ending)(w':World):Prop :=
 ∃A c rs,e=.returned (.slice A rs.length c)∧Us w' A c rs∧zaI rs∧val rs=n∧Below w.heap.size w w'
def RetB (n:Nat)(w:World)(e:Ending)(w':World):Prop :=
 ∃A c bs,e=.returned (.slice A bs.length c)∧Bl w' A c bs∧zbg bs∧bval bs=n∧Below w.heap.size w w'
theorem Tryz.infoU:(Tryz.prog.info? 137).map (fun i=>(i.zero,i.size,i.bytes))=some (some (.int .u32 0),1,4):=by kernel_rfl
theorem Tryz.infoB:(Tryz.prog.info? 4).map (fun i=>(i.zero,i.size,i.bytes))=some (some (.bool false),1,1):=by kernel_rfl
end Go.Proofs.YtfjajpnfjjdnpaaGreatDoor
