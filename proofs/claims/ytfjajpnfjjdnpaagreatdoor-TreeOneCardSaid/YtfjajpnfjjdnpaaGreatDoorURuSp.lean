import Derived.Test.YtfjajpnfjjdnpaaGreatDoorUTrAp

set_option linter.unusedVariables false
set_option linter.unusedSimpArgs false
set_option maxRecDepth 100000
set_option maxHeartbeats 6400000
namespace Go.Proofs.YtfjajpnfjjdnpaaGreatDoor
open Go.RowKit Num Nds Txt
theorem zmp (W:World):Ns (W.alloc (.cells #[.int .i64 1,.int .i64 1,.int .i64 0,.int .i64 0,.int .i64 0,.int .i64 2,.int .i64 1,.int .i64 0,.int .i64 0,.int .i64 0,.int .i64 3,.int .i64 2,.int .i64 2,.int .i64 0,.int .i64 0] 70)) (some ⟨W.heap.size,0,none⟩) 3 zfU:=by
 have h:=heap_alloc_new W (.cells #[.int .i64 1,.int .i64 1,.int .i64 0,.int .i64 0,.int .i64 0,.int .i64 2,.int .i64 1,.int .i64 0,.int .i64 0,.int .i64 0,.int .i64 3,.int .i64 2,.int .i64 2,.int .i64 0,.int .i64 0] 70);refine⟨fun x hx=>?_,Nat.le_refl _,by simp[maxLen],fun _=>⟨_,0,rfl,(Array.getElem?_eq_some_iff.1 h).1,fun i hi=>?_⟩⟩
 ·simp only[zfU,List.mem_cons,List.not_mem_nil,or_false] at hx;rcases hx with rfl|rfl|rfl <;> (simp only[Nd.wf,in64];omega)
 ·match i,hi with
  | 0,_=>refine⟨?_,?_,?_,?_,?_⟩ <;> (rw[cell_of_row _ _ _ _ _ _ h];rfl)
  | 1,_=>refine⟨?_,?_,?_,?_,?_⟩ <;> (rw[cell_of_row _ _ _ _ _ _ h];rfl)
  | 2,_=>refine⟨?_,?_,?_,?_,?_⟩ <;> (rw[cell_of_row _ _ _ _ _ _ h];rfl)
theorem zcm (w:World)(T:TabP w):Calls Tryz.prog 37 #[] w fun e w'=>e=.returned (.bool true)∧Below w.heap.size w w':=by
 have q0:True:=trivial;have HT:=Hh T;clear T;go_enter Tryz.func37,Tryz.ntmps37;rw[show(⟨#[66,51,47,83,50,51]⟩:ByteArray)=zco from rfl,show(⟨#[97]⟩:ByteArray)=zaj from rfl,show(⟨#[91,77,50,93,32,40,103,108,105,100,101,114,41,10,35,82,32,66,51,47,83,50,51,10,36,36,36,36,46,46,46,46,42,36,10]⟩:ByteArray)=t14p from rfl,show(⟨#[91,77,50,93,32,40,103,108,105,100,101,114,41,10,35,82,32,97,10,49,32,51,32,48,32,48,32,48,10,49,32,50,32,48,32,48,32,48,10,50,32,48,32,48,32,49,32,50,10]⟩:ByteArray)=t14q from rfl];go_wp2_with (first
  | (have _t:=q0;go_at_call 13;clear _t;go_loud (have hal:=(Below.refl w.heap.size w).alloc (Nat.le_refl _) (.cells #[.bool false,.slice none 0 0,.bool false,.slice none 0 0,.int .u8 1] 78);have hn1:=heap_alloc_new w (.cells #[.bool false,.slice none 0 0,.bool false,.slice none 0 0,.int .u8 1] 78);refine(zjB (some ⟨w.heap.size,0,none⟩) 1 1 1 zco zpj _ (by decide) (znx _ hn1 ⟨Us.nil _,Us.nil _,by show 1≤255;omega⟩) rfl (by omega)).mono ?_;rintro e w2 ⟨A5,c5,qn,q,ok,rfl,l5,n5,a5,b5,hok,-,hqo⟩;rw[zpY] at hok;subst hok;have e5:q=zdb:=zkp (hqo rfl);subst e5;have e6:qn=1:=l5.symm;subst e6;have hc5:=n5.cap;have N5:=Hh n5;have A5n:=Hh a5;have B2:=Hh (hal.trans (b5.mono hal.size));clear l5 n5 a5 b5 hqo hal hn1;have q1:=q0;clear q0))
  | (have _t:=q1;go_at_call 48;clear _t;go_loud (refine(zge (-2) _ (by omega) (by omega)).mono ?_;rintro e w3 h_;obtain⟨a,rfl,r_,b_⟩:=zoT h_;have la:=zpK r_ (zpQ (by omega)).1 (zpQ (by omega)).2;have hca:=r_.us.cap;have Ra:=Hh r_;have B3:=Hh b_;clear h_ r_ b_;have q2:=q1;clear q1))
  | (have _t:=q2;go_at_call 13;clear _t;go_loud (have hal:=(Below.refl w3.heap.size w3).alloc (Nat.le_refl _) (.cells #[.bool false,.slice none 0 0,.bool false,.slice none 0 0,.int .u8 2,.bool a.s,.slice a.a a.xs.length a.c,.bool false,.slice none 0 0,.int .u8 3] 78);have hn1:=heap_alloc_new w3 (.cells #[.bool false,.slice none 0 0,.bool false,.slice none 0 0,.int .u8 2,.bool a.s,.slice a.a a.xs.length a.c,.bool false,.slice none 0 0,.int .u8 3] 78);refine(zjB (some ⟨w3.heap.size,0,none⟩) 2 2 2 zaj (cv14 a) _ (by decide) (zoZ _ _ hn1 ⟨Us.nil _,Us.nil _,by show 2≤255;omega⟩ ⟨Ra.out.us.below hal,Us.nil _,by show 3≤255;omega⟩) rfl (by omega)).mono ?_;rintro e w4 ⟨A6,c6,qn,q,ok,rfl,l6,n6,a6,b6,hok,-,hqo⟩;have hm:=zqu Ra.out la;rw[hm] at hok;subst hok;have e5:q=zdc:=zkq (by have:=hqo rfl;rwa [zmn Ra.out] at this);subst e5;have e6:qn=3:=l6.symm;subst e6;have hc6:=n6.cap;have A6n:=Hh a6;have PP:=Hh (P14.start B2.out N5.out (B3.out.trans ((hal.trans (b6.mono hal.size)).mono B3.out.size)) n6);obtain⟨c0,c1,c2,c3⟩:=PP.out.cells;clear hm l6 n6 a6 b6 hqo hal hn1;have q3:=q2;clear q2))
  | (have _t:=q3;go_at_call 38;clear _t;go_loud (refine(zdF A5 c5 1 zco zdb _ (by decide) PP.out.np rfl (by omega) A5n.out (zat HT.out PP.out.b)).mono ?_;rintro e w5 h_;obtain⟨rfl,b_⟩:=zpZ h_;clear h_;have PP:=Hh (PP.out.next b_);clear c0 c1 c2 c3 b_;obtain⟨c0,c1,c2,c3⟩:=PP.out.cells;have q4:=q3;clear q3))
  | (have _t:=q4;go_at_call 38;clear _t;go_loud (refine(zdF A6 c6 3 zaj zdc _ (by decide) PP.out.nq rfl (by omega) A6n.out (zat HT.out PP.out.b)).mono ?_;rintro e w6 h_;obtain⟨rfl,b_⟩:=zqa h_;clear h_;have PP:=Hh (PP.out.next b_);clear c0 c1 c2 c3 b_;obtain⟨c0,c1,c2,c3⟩:=PP.out.cells;have q5:=q4;clear q4))
  | (have _t:=q5;go_at_call 38;clear _t;go_loud (refine(zdF none 0 0 ⟨#[]⟩ [] _ (by decide) (zfF _) rfl (by omega) (fun _=>rfl) (zat HT.out PP.out.b)).mono ?_;rintro e w7 h_;obtain⟨rfl,b_⟩:=zqb h_;clear h_;have PP:=Hh (PP.out.next b_);clear c0 c1 c2 c3 b_;obtain⟨c0,c1,c2,c3⟩:=PP.out.cells;have q6:=q5;clear q5))
  | (have _t:=q6;go_at_call 40;clear _t;go_loud (refine(zdE A5 c5 1 zdb _ PP.out.np rfl (by omega) zfd A5n.out).mono ?_;rintro e w8 ⟨rfl,b_⟩;rw[zqc];have PP:=Hh (PP.out.next b_);clear c0 c1 c2 c3 b_;obtain⟨c0,c1,c2,c3⟩:=PP.out.cells;have q7:=q6;clear q6))
  | (have _t:=q7;go_at_call 40;clear _t;go_loud (refine(zdE A6 c6 3 zdc _ PP.out.nq rfl (by omega) zfe A6n.out).mono ?_;rintro e w9 ⟨rfl,b_⟩;rw[zqd];have PP:=Hh (PP.out.next b_);clear c0 c1 c2 c3 b_;obtain⟨c0,c1,c2,c3⟩:=PP.out.cells;have q8:=q7;clear q7))
  | (have _t:=q8;go_at_call 40;clear _t;go_loud (refine(zdE none 0 0 [] _ (zfF _) rfl (by omega) rfl (fun _=>rfl)).mono ?_;rintro e w10 ⟨rfl,b_⟩;rw[zqe];have PP:=Hh (PP.out.next b_);clear c0 c1 c2 c3 b_;obtain⟨c0,c1,c2,c3⟩:=PP.out.cells;have q9:=q8;clear q8))
  | (have _t:=q9;go_at_call 43;clear _t;go_loud (have hal:=(Below.refl w10.heap.size w10).alloc (Nat.le_refl _) (.cells #[.int .i64 1,.int .i64 1,.int .i64 0,.int .i64 0,.int .i64 0,.int .i64 2,.int .i64 1,.int .i64 0,.int .i64 0,.int .i64 0,.int .i64 3,.int .i64 2,.int .i64 2,.int .i64 0,.int .i64 0] 70);refine(zhD (some ⟨w10.heap.size,0,none⟩) 3 3 zfU 3 _ (zmp w10) rfl (by omega) zhH zkr).mono ?_;rintro e w11 ⟨rfl,b_⟩;rw[zmo];have PP:=Hh (PP.out.next (hal.trans (b_.mono hal.size)));clear c0 c1 c2 c3 b_ hal;have q10:=q9;clear q9)))
 go_ret;exact⟨rfl,PP.out.b⟩
theorem zcN {c:UInt8}:∀{a b r s:List UInt8},c∉a→c∉b→a++c :: r=b++c :: s→a=b∧r=s
 | [],[],r,s,_,_,h=>⟨rfl,(List.cons.inj h).2⟩
 | [],y :: b,r,s,_,hb,h=>absurd (by rw[(List.cons.inj h).1];exact List.mem_cons_self) hb
 | x :: a,[],r,s,ha,_,h=>absurd (by rw[(List.cons.inj h).1];exact List.mem_cons_self) ha
 | x :: a,y :: b,r,s,ha,hb,h=>by
  obtain⟨h1,h2⟩:=List.cons.inj h;obtain⟨h3,h4⟩:=zcN (fun k=>ha (List.mem_cons_of_mem _ k)) (fun k=>hb (List.mem_cons_of_mem _ k)) h2;exact⟨by rw[h1,h3],h4⟩
theorem zgU {c:UInt8}:∀{A B:List (List UInt8)},(∀r∈A,c∉r)→(∀r∈B,c∉r)→(A.map fun r=>r++[c]).flatten=(B.map fun r=>r++[c]).flatten→A=B
 | [],[],_,_,_=>rfl
 | [],y :: B,_,_,h=>by simp at h
 | x :: A,[],_,_,h=>by simp at h
 | x :: A,y :: B,hA,hB,h=>by
  rw[List.map_cons,List.map_cons,List.flatten_cons,List.flatten_cons,List.append_assoc,List.append_assoc] at h;obtain⟨h1,h2⟩:=zcN (hA x List.mem_cons_self) (hB y List.mem_cons_self) (show x++c :: (A.map fun r=>r++[c]).flatten=y++c :: (B.map fun r=>r++[c]).flatten from h);rw[h1,zgU (fun r hr=>hA r (List.mem_cons_of_mem _ hr)) (fun r hr=>hB r (List.mem_cons_of_mem _ hr)) h2]
end Go.Proofs.YtfjajpnfjjdnpaaGreatDoor
