import Derived.Test.YtfjajpnfjjdnpaaGreatDoorWBig
import Derived.Test.YtfjajpnfjjdnpaaGreatDoorWNdMem

set_option linter.unusedVariables false
set_option linter.unusedSimpArgs false
set_option maxRecDepth 100000
set_option maxHeartbeats 6400000
namespace Go.Proofs.YtfjajpnfjjdnpaaGreatDoor
open Go.RowKit Num
def shlI (x:Int)(n:Int):Int:=if 0≤n∧n≤10000 then x*2^n.toNat else 0
theorem zir (s:Bool){xs r:List Nat}{n:Int}(h:val r=shlN (val xs) n):ival s r=shlI (ival s xs) n:=by
 unfold ival shlI;rw[h];unfold shlN;by_cases hn:0≤n∧n≤10000
 ·rw[if_pos hn,if_pos hn];cases s <;> simp[Int.neg_mul]
 ·rw[if_neg hn,if_neg hn];cases s <;> rfl
theorem zot {xs r:List Nat}{n:Int}(hd:Dig xs)(hl:xs.length≤60000)(hc:zaI r)(hv:val r=shlN (val xs) n):r.length≤60313:=by
 obtain⟨K,hK⟩:∃K,K=60000:=⟨_,rfl⟩;obtain⟨M,hM⟩:∃M,M=313:=⟨_,rfl⟩;rw[←hK] at hl;have h3:=Nat.lt_of_lt_of_le (zbz hd) (Nat.pow_le_pow_right (by decide) hl);have h5:r.length≤K+M:=by
  refine zjn hc ?_;rw[hv,Nat.pow_add,zvb M];generalize (4294967296:Nat)^K=P at *;unfold shlN;split
  ·rename_i h;have h4:2^n.toNat≤2^(32*M):=Nat.pow_le_pow_right (by decide) (by omega);exact Nat.lt_of_le_of_lt (Nat.mul_le_mul_left _ h4) (Nat.mul_lt_mul_of_pos_right h3 (Nat.two_pow_pos _))
  ·exact Nat.mul_pos (by omega) (Nat.two_pow_pos _)
 omega
theorem zrv (s:Bool){xs r:List Nat}(h:val r=val xs):ival (!s) r = -ival s xs:=by
 unfold ival;rw[h];cases s <;> simp
theorem zbB (s:Bool)(A:Option Addr)(c:Nat)(xs:List Nat)(w:World)(h:Us w A c xs)(hl:xs.length≤100000) :
  Calls Tryz.prog 108 #[.agg #[.bool s,.slice A xs.length c]] w (RetI (-ival s xs) w):=by
 have hcap:=h.cap;obtain⟨hX,hR,hB⟩:=box2 w (.bool s) (.slice A xs.length c) (.bool false) (.slice none 0 0) 48;have HR:=Hh hR;have HB:=Hh hB;have H1:=Hh (h.below HB.out);clear h hX hR hB;go_enter Tryz.func108,Tryz.ntmps108;go_wp2_with (go_at_call 94;refine(zcb (!s) _ _ xs _ H1.out hl).mono ?_;rintro e w2 ⟨A2,c2,s2,r2,rfl,q2,k2,v2,b2⟩;obtain⟨y1,y2,y3,y4,_⟩:=HR.out.below b2);obtain⟨e1,e2,_,_,_⟩:=(HR.out.below b2).set (.bool s2) (.slice A2 r2.length c2);refine bodyPost_ret (v:=.agg #[.bool s2,.slice A2 r2.length c2]) (by simp[results,Tryz.results108,go_sem,e1,e2]) rfl ?_;exact RetI.box (by omega) (HR.out.below b2) q2 k2 (v2.trans (zrv s rfl)) (HB.out.trans (b2.mono HB.out.size))
theorem zrw (s:Bool)(A:Option Addr)(c:Nat)(xs:List Nat)(n:Int)(w:World)(h:Us w A c xs)(hl:xs.length≤100000) :
  Calls Tryz.prog 234 #[.agg #[.bool s,.slice A xs.length c],.int .i64 n] w (RetI (shlI (ival s xs) n) w):=by
 have hcap:=h.cap;obtain⟨hX,hR,hB⟩:=box2 w (.bool s) (.slice A xs.length c) (.bool false) (.slice none 0 0) 48;have HX:=Hh hX.drew;have HR:=Hh hR.drew;have HB:=Hh (Below.drew' hB);have H1:=Hh (h.below HB.out);clear h hX hR hB;go_enter Tryz.func234,Tryz.ntmps234;go_wp2_with fail;go_region_held3 (fun w'=>w'.cell? ⟨w.heap.size,0,none⟩=some (.bool s)∧w'.cell? ⟨w.heap.size,1,none⟩=some (.slice A xs.length c))
  (first|go_keep|fail)
  (first
   | (go_at_call 269;refine(zwe _ _ xs n _ H1.out (by omega)).mono ?_;rintro e w1 ⟨A1,c1,r1,rfl,q1,k1,v1,b1⟩;obtain⟨x1,x2,_,_,_⟩:=HX.out.below b1)
   | (go_at_call 203;refine(zbA s _ _ r1 _ q1 k1).mono ?_;rintro e w2 ⟨A2,c2,s2,r2,rfl,q2,k2,v2,b2⟩;obtain⟨x1,x2,_,_,_⟩:=(HX.out.below b1).below b2;obtain⟨y1,y2,y3,y4,_⟩:=(HR.out.below b1).below b2))
 go_wp2;obtain⟨e1,e2,_,_,_⟩:=(((HR.out.below b1).below b2).set (.bool s2) (.slice A2 r2.length c2));refine bodyPost_ret (v:=.agg #[.bool s2,.slice A2 r2.length c2]) (by simp[results,Tryz.results234,go_sem,e1,e2]) rfl ?_;exact RetI.box (by omega) ((HR.out.below b1).below b2) q2 k2 (v2.trans (zir s v1)) ((HB.out.trans (b1.mono HB.out.size)).trans (b2.mono (HB.out.trans (b1.mono HB.out.size)).size))
theorem zou (s:Bool)(A:Option Addr)(c:Nat)(xs:List Nat)(n:Int)(w:World)(h:Us w A c xs)(hl:xs.length≤60000) :
  Calls Tryz.prog 153 #[.agg #[.bool s,.slice A xs.length c],.int .i64 n] w (RetI (shlI (ival s xs) n) w):=by
 have hcap:=h.cap;obtain⟨hX,hR,hB⟩:=box2 w (.bool s) (.slice A xs.length c) (.bool false) (.slice none 0 0) 48;have HX:=Hh hX.drew;have HR:=Hh hR.drew;have HB:=Hh (Below.drew' hB);have hd:=h.1;have H1:=Hh (h.below HB.out);clear h hX hR hB;go_enter Tryz.func153,Tryz.ntmps153;go_wp2_with fail;go_region_held3 (fun w'=>w'.cell? ⟨w.heap.size,0,none⟩=some (.bool s)∧w'.cell? ⟨w.heap.size,1,none⟩=some (.slice A xs.length c))
  (first|go_keep|fail)
  (first
   | (go_at_call 201;refine(zsZ _ _ xs n _ H1.out (by omega)).mono ?_;rintro e w1 ⟨A1,c1,r1,rfl,q1,k1,v1,b1⟩;obtain⟨x1,x2,_,_,_⟩:=HX.out.below b1)
   | (go_at_call 94;refine(zcb s _ _ r1 _ q1 (by have:=zot hd hl k1 v1;omega)).mono ?_;rintro e w2 ⟨A2,c2,s2,r2,rfl,q2,k2,v2,b2⟩;obtain⟨x1,x2,_,_,_⟩:=(HX.out.below b1).below b2;obtain⟨y1,y2,y3,y4,_⟩:=(HR.out.below b1).below b2))
 go_wp2;obtain⟨e1,e2,_,_,_⟩:=(((HR.out.below b1).below b2).set (.bool s2) (.slice A2 r2.length c2));refine bodyPost_ret (v:=.agg #[.bool s2,.slice A2 r2.length c2]) (by simp[results,Tryz.results153,go_sem,e1,e2]) rfl ?_;exact RetI.box (by omega) ((HR.out.below b1).below b2) q2 k2 (v2.trans (zir s v1)) ((HB.out.trans (b1.mono HB.out.size)).trans (b2.mono (HB.out.trans (b1.mono HB.out.size)).size))
-- ADD --
theorem zkx {xs ys r:List Nat}(hd:Dig xs)(kd:Dig ys)(hl:xs.length≤60000)(kl:ys.length≤60000)(hc:zaI r)(hv:val r=val xs+val ys):r.length≤60001:=by
 obtain⟨K,hK⟩:∃K,K=60000:=⟨_,rfl⟩;rw[←hK] at hl kl;have h1:=Nat.lt_of_lt_of_le (zbz hd) (Nat.pow_le_pow_right (by decide) hl);have h2:=Nat.lt_of_lt_of_le (zbz kd) (Nat.pow_le_pow_right (by decide) kl);have h3:r.length≤K+1:=zjn hc (by rw[hv,Nat.pow_succ];omega);omega
theorem zdw {xs r:List Nat}{n:Nat}(hd:Dig xs)(hl:xs.length≤60000)(hc:zaI r)(hv:val r=val xs-n):r.length≤60000:=by
 obtain⟨K,hK⟩:∃K,K=60000:=⟨_,rfl⟩;rw[←hK] at hl;have h1:=Nat.lt_of_lt_of_le (zbz hd) (Nat.pow_le_pow_right (by decide) hl);have h3:r.length≤K:=zjn hc (by rw[hv];omega);omega
theorem zov (s:Bool)(A B:Option Addr)(c d:Nat)(xs ys:List Nat)(w:World)(h:Us w A c xs)(k:Us w B d ys)(hl:xs.length≤60000)(kl:ys.length≤60000) :
  Calls Tryz.prog 207 #[.agg #[.bool s,.slice A xs.length c],.agg #[.bool s,.slice B ys.length d]] w (RetI (ival s xs+ival s ys) w):=by
 have hcap:=h.cap;have kcap:=k.cap;obtain⟨hX,hY,hR,hB⟩:=box3 w (.bool s) (.slice A xs.length c) (.bool s) (.slice B ys.length d) (.bool false) (.slice none 0 0) 48;have HX:=Hh hX.drew;have HY:=Hh hY.drew;have HR:=Hh hR.drew;have HB:=Hh (Below.drew' hB);have H1:=Hh (h.below HB.out);have H2:=Hh (k.below HB.out);have hd:=h.1;have kd:=k.1;clear h k hX hY hR hB;have n1:¬ w.heap.size=w.heap.size+1+1:=by omega
 have n2:¬ w.heap.size+1+1=w.heap.size:=by omega
 go_enter Tryz.func207,Tryz.ntmps207;go_wp2_with fail;go_region_held3 (fun w'=>w'.cell? ⟨w.heap.size,0,none⟩=some (.bool s)∧w'.cell? ⟨w.heap.size,1,none⟩=some (.slice A xs.length c)∧w'.cell? ⟨w.heap.size+1,1,none⟩=some (.slice B ys.length d))
  (first|go_keep|fail)
  (first
   | (go_at_call 243;refine(ztC _ _ _ _ xs ys _ H1.out H2.out (by omega) (by omega)).mono ?_;rintro e w1 ⟨A1,c1,r1,rfl,q1,k1,v1,b1⟩;obtain⟨x1,x2,_,_,_⟩:=HX.out.below b1;obtain⟨_,z2,_,_,_⟩:=HY.out.below b1;have l1:=zkx hd kd hl kl k1 v1)
   | (go_at_call 203;refine(zbA s _ _ r1 _ q1 k1).mono ?_;rintro e w2 ⟨A2,c2,s2,r2,rfl,q2,k2,v2,b2⟩;obtain⟨x1,x2,_,_,_⟩:=(HX.out.below b1).below b2;obtain⟨_,z2,_,_,_⟩:=(HY.out.below b1).below b2;obtain⟨y1,y2,y3,y4,_⟩:=(HR.out.below b1).below b2))
 go_wp2;obtain⟨e1,e2,_,_,_⟩:=(((HR.out.below b1).below b2).set (.bool s2) (.slice A2 r2.length c2));refine bodyPost_ret (v:=.agg #[.bool s2,.slice A2 r2.length c2]) (by simp[results,Tryz.results207,go_sem,e1,e2]) rfl ?_;refine RetI.box (by omega) ((HR.out.below b1).below b2) q2 k2 (v2.trans ?_) ((HB.out.trans (b1.mono HB.out.size)).trans (b2.mono (HB.out.trans (b1.mono HB.out.size)).size));unfold ival;rw[v1];cases s <;> simp <;> omega
theorem zow (s:Bool)(A B:Option Addr)(c d:Nat)(xs ys:List Nat)(w:World)(h:Us w A c xs)(k:Us w B d ys)(hl:xs.length≤60000)(kl:ys.length≤60000)(hle:val ys≤val xs) :
  Calls Tryz.prog 207 #[.agg #[.bool s,.slice A xs.length c],.agg #[.bool (!s),.slice B ys.length d]] w (RetI (ival s xs+ival (!s) ys) w):=by
 have hcap:=h.cap;have kcap:=k.cap;obtain⟨hX,hY,hR,hB⟩:=box3 w (.bool s) (.slice A xs.length c) (.bool (!s)) (.slice B ys.length d) (.bool false) (.slice none 0 0) 48;have HX:=Hh hX;have HY:=Hh hY;have HR:=Hh hR;have HB:=Hh (hB);have H1:=Hh (h.below HB.out);have H2:=Hh (k.below HB.out);have hd:=h.1;have kd:=k.1;clear h k hX hY hR hB;have n1:¬ w.heap.size=w.heap.size+1+1:=by omega
 have n2:¬ w.heap.size+1+1=w.heap.size:=by omega
 have HL:=Hh hle;clear hle;have hst:(s == !s)=false:=by cases s <;> rfl
 go_enter Tryz.func207,Tryz.ntmps207;go_wp2_with (first
  | (go_at_call_of 244 (Value.slice A xs.length c);go_loud (refine(zkv _ _ _ _ xs ys _ H1.out H2.out (by omega) (by omega)).mono ?_;intro e w1 h;obtain⟨A1,c1,r1,rfl,q1,k1,v1,b1⟩:=h.2 HL.out;clear h;obtain⟨x1,x2,_,_,_⟩:=HX.out.below b1;obtain⟨z1,z2,_,_,_⟩:=HY.out.below b1;have l1:=zdw hd hl k1 v1;have HV:=Hh v1;clear v1))
  | (go_at_call 203;go_loud (refine(zbA s _ _ r1 _ q1 k1).mono ?_;rintro e w2 ⟨A2,c2,s2,r2,rfl,q2,k2,v2,b2⟩;obtain⟨y1,y2,y3,y4,_⟩:=(HR.out.below b1).below b2;have HV2:=Hh v2;clear v2)))
 obtain⟨e1,e2,_,_,_⟩:=(((HR.out.below b1).below b2).set (.bool s2) (.slice A2 r2.length c2));refine bodyPost_ret (v:=.agg #[.bool s2,.slice A2 r2.length c2]) (by simp[results,Tryz.results207,go_sem,e1,e2]) rfl ?_;refine RetI.box (by omega) ((HR.out.below b1).below b2) q2 k2 (HV2.out.trans ?_) ((HB.out.trans (b1.mono HB.out.size)).trans (b2.mono (HB.out.trans (b1.mono HB.out.size)).size));have hle:=HL.out;unfold ival;rw[HV.out];cases s <;> simp <;> omega
theorem zox (s:Bool)(A B:Option Addr)(c d:Nat)(xs ys:List Nat)(w:World)(h:Us w A c xs)(k:Us w B d ys)(hl:xs.length≤60000)(kl:ys.length≤60000)(hle:val xs<val ys) :
  Calls Tryz.prog 207 #[.agg #[.bool s,.slice A xs.length c],.agg #[.bool (!s),.slice B ys.length d]] w (RetI (ival s xs+ival (!s) ys) w):=by
 have hcap:=h.cap;have kcap:=k.cap;obtain⟨hX,hY,hR,hB⟩:=box3 w (.bool s) (.slice A xs.length c) (.bool (!s)) (.slice B ys.length d) (.bool false) (.slice none 0 0) 48;have HX:=Hh hX;have HY:=Hh hY;have HR:=Hh hR;have HB:=Hh (hB);have H1:=Hh (h.below HB.out);have H2:=Hh (k.below HB.out);have hd:=h.1;have kd:=k.1;clear h k hX hY hR hB;have n1:¬ w.heap.size=w.heap.size+1+1:=by omega
 have n2:¬ w.heap.size+1+1=w.heap.size:=by omega
 have HL:=Hh hle;clear hle;have hst:(s == !s)=false:=by cases s <;> rfl
 have tok0:True:=trivial;go_enter Tryz.func207,Tryz.ntmps207;go_wp2_with (first
  | (go_at_call 244;have _t:=tok0;refine(zkv A B _ _ xs ys _ H1.out H2.out (by omega) (by omega)).mono ?_;intro e w1 h;obtain⟨rfl,b1⟩:=h.1 HL.out;clear h tok0 _t;obtain⟨x1,x2,_,_,_⟩:=HX.out.below b1;obtain⟨z1,z2,_,_,_⟩:=HY.out.below b1)
  | (go_at_call 244;go_loud (refine(zkv B A _ _ ys xs _ (H2.out.below b1) (H1.out.below b1) (by omega) (by omega)).mono ?_;intro e w3 h;obtain⟨A1,c1,r1,rfl,q1,k1,v1,b3⟩:=h.2 (Nat.le_of_lt HL.out);clear h x1 x2 z1 z2;obtain⟨x1,x2,_,_,_⟩:=(HX.out.below b1).below b3;obtain⟨z1,z2,_,_,_⟩:=(HY.out.below b1).below b3;have l1:=zdw kd kl k1 v1;have HV:=Hh v1;clear v1))
  | (go_at_call 203;go_loud (refine(zbA (!s) _ _ r1 _ q1 k1).mono ?_;rintro e w2 ⟨A2,c2,s2,r2,rfl,q2,k2,v2,b2⟩;obtain⟨y1,y2,y3,y4,_⟩:=((HR.out.below b1).below b3).below b2;have HV2:=Hh v2;clear v2)))
 obtain⟨e1,e2,_,_,_⟩:=((((HR.out.below b1).below b3).below b2).set (.bool s2) (.slice A2 r2.length c2));refine bodyPost_ret (v:=.agg #[.bool s2,.slice A2 r2.length c2]) (by simp[results,Tryz.results207,go_sem,e1,e2]) rfl ?_;have hb1:=HB.out.trans (b1.mono HB.out.size);have hb3:=hb1.trans (b3.mono hb1.size);refine RetI.box (by omega) (((HR.out.below b1).below b3).below b2) q2 k2 (HV2.out.trans ?_) (hb3.trans (b2.mono hb3.size));have hle:=HL.out;unfold ival;rw[HV.out];cases s <;> simp <;> omega
theorem zlG (s t:Bool)(A B:Option Addr)(c d:Nat)(xs ys:List Nat)(w:World)(h:Us w A c xs)(k:Us w B d ys)(hl:xs.length≤60000)(kl:ys.length≤60000) :
  Calls Tryz.prog 207 #[.agg #[.bool s,.slice A xs.length c],.agg #[.bool t,.slice B ys.length d]] w (RetI (ival s xs+ival t ys) w):=by
 by_cases hst:s=t
 ·subst hst;exact zov s A B c d xs ys w h k hl kl
 ·obtain rfl:t = !s:=by cases s <;> cases t <;> simp_all
  rcases Nat.lt_or_ge (val xs) (val ys) with hlt|hge
  ·exact zox s A B c d xs ys w h k hl kl hlt
  ·exact zow s A B c d xs ys w h k hl kl hge
theorem zni (s:Bool)(A B:Option Addr)(c d:Nat)(xs ys:List Nat)(w:World)(h:Us w A c xs)(k:Us w B d ys)(hl:xs.length≤60000)(kl:ys.length≤60000) :
  Calls Tryz.prog 71 #[.agg #[.bool s,.slice A xs.length c],.agg #[.bool s,.slice B ys.length d]] w (RetI (ival s xs+ival s ys) w):=by
 have hcap:=h.cap;have kcap:=k.cap;obtain⟨hX,hY,hR,hB⟩:=box3 w (.bool s) (.slice A xs.length c) (.bool s) (.slice B ys.length d) (.bool false) (.slice none 0 0) 48;have HX:=Hh hX.drew;have HY:=Hh hY.drew;have HR:=Hh hR.drew;have HB:=Hh (Below.drew' hB);have H1:=Hh (h.below HB.out);have H2:=Hh (k.below HB.out);have hd:=h.1;have kd:=k.1;clear h k hX hY hR hB;have n1:¬ w.heap.size=w.heap.size+1+1:=by omega
 have n2:¬ w.heap.size+1+1=w.heap.size:=by omega
 go_enter Tryz.func71,Tryz.ntmps71;go_wp2_with fail;go_region_held3 (fun w'=>w'.cell? ⟨w.heap.size,0,none⟩=some (.bool s)∧w'.cell? ⟨w.heap.size,1,none⟩=some (.slice A xs.length c)∧w'.cell? ⟨w.heap.size+1,1,none⟩=some (.slice B ys.length d))
  (first|go_keep|fail)
  (first
   | (go_at_call 116;refine(zlE _ _ _ _ xs ys _ H1.out H2.out (by omega) (by omega)).mono ?_;rintro e w1 ⟨A1,c1,r1,rfl,q1,k1,v1,b1⟩;obtain⟨x1,x2,_,_,_⟩:=HX.out.below b1;obtain⟨_,z2,_,_,_⟩:=HY.out.below b1;have l1:=zkx hd kd hl kl k1 v1)
   | (go_at_call 94;refine(zcb s _ _ r1 _ q1 (by omega)).mono ?_;rintro e w2 ⟨A2,c2,s2,r2,rfl,q2,k2,v2,b2⟩;obtain⟨x1,x2,_,_,_⟩:=(HX.out.below b1).below b2;obtain⟨_,z2,_,_,_⟩:=(HY.out.below b1).below b2;obtain⟨y1,y2,y3,y4,_⟩:=(HR.out.below b1).below b2))
 go_wp2;obtain⟨e1,e2,_,_,_⟩:=(((HR.out.below b1).below b2).set (.bool s2) (.slice A2 r2.length c2));refine bodyPost_ret (v:=.agg #[.bool s2,.slice A2 r2.length c2]) (by simp[results,Tryz.results71,go_sem,e1,e2]) rfl ?_;refine RetI.box (by omega) ((HR.out.below b1).below b2) q2 k2 (v2.trans ?_) ((HB.out.trans (b1.mono HB.out.size)).trans (b2.mono (HB.out.trans (b1.mono HB.out.size)).size));unfold ival;rw[v1];cases s <;> simp <;> omega
theorem znj (s:Bool)(A B:Option Addr)(c d:Nat)(xs ys:List Nat)(w:World)(h:Us w A c xs)(k:Us w B d ys)(hl:xs.length≤60000)(kl:ys.length≤60000)(hle:val ys≤val xs) :
  Calls Tryz.prog 71 #[.agg #[.bool s,.slice A xs.length c],.agg #[.bool (!s),.slice B ys.length d]] w (RetI (ival s xs+ival (!s) ys) w):=by
 have hcap:=h.cap;have kcap:=k.cap;obtain⟨hX,hY,hR,hB⟩:=box3 w (.bool s) (.slice A xs.length c) (.bool (!s)) (.slice B ys.length d) (.bool false) (.slice none 0 0) 48;have HX:=Hh hX;have HY:=Hh hY;have HR:=Hh hR;have HB:=Hh (hB);have H1:=Hh (h.below HB.out);have H2:=Hh (k.below HB.out);have hd:=h.1;have kd:=k.1;clear h k hX hY hR hB;have n1:¬ w.heap.size=w.heap.size+1+1:=by omega
 have n2:¬ w.heap.size+1+1=w.heap.size:=by omega
 have HL:=Hh hle;clear hle;have hst:(s == !s)=false:=by cases s <;> rfl
 go_enter Tryz.func71,Tryz.ntmps71;go_wp2_with (first
  | (go_at_call_of 117 (Value.slice A xs.length c);go_loud (refine(zdv _ _ _ _ xs ys _ H1.out H2.out (by omega) (by omega)).mono ?_;intro e w1 h;obtain⟨A1,c1,r1,rfl,q1,k1,v1,b1⟩:=h.2 HL.out;clear h;obtain⟨x1,x2,_,_,_⟩:=HX.out.below b1;obtain⟨z1,z2,_,_,_⟩:=HY.out.below b1;have l1:=zdw hd hl k1 v1;have HV:=Hh v1;clear v1))
  | (go_at_call 94;go_loud (refine(zcb s _ _ r1 _ q1 (by omega)).mono ?_;rintro e w2 ⟨A2,c2,s2,r2,rfl,q2,k2,v2,b2⟩;obtain⟨y1,y2,y3,y4,_⟩:=(HR.out.below b1).below b2;have HV2:=Hh v2;clear v2)))
 obtain⟨e1,e2,_,_,_⟩:=(((HR.out.below b1).below b2).set (.bool s2) (.slice A2 r2.length c2));refine bodyPost_ret (v:=.agg #[.bool s2,.slice A2 r2.length c2]) (by simp[results,Tryz.results71,go_sem,e1,e2]) rfl ?_;refine RetI.box (by omega) ((HR.out.below b1).below b2) q2 k2 (HV2.out.trans ?_) ((HB.out.trans (b1.mono HB.out.size)).trans (b2.mono (HB.out.trans (b1.mono HB.out.size)).size));have hle:=HL.out;unfold ival;rw[HV.out];cases s <;> simp <;> omega
theorem znk (s:Bool)(A B:Option Addr)(c d:Nat)(xs ys:List Nat)(w:World)(h:Us w A c xs)(k:Us w B d ys)(hl:xs.length≤60000)(kl:ys.length≤60000)(hle:val xs<val ys) :
  Calls Tryz.prog 71 #[.agg #[.bool s,.slice A xs.length c],.agg #[.bool (!s),.slice B ys.length d]] w (RetI (ival s xs+ival (!s) ys) w):=by
 have hcap:=h.cap;have kcap:=k.cap;obtain⟨hX,hY,hR,hB⟩:=box3 w (.bool s) (.slice A xs.length c) (.bool (!s)) (.slice B ys.length d) (.bool false) (.slice none 0 0) 48;have HX:=Hh hX;have HY:=Hh hY;have HR:=Hh hR;have HB:=Hh (hB);have H1:=Hh (h.below HB.out);have H2:=Hh (k.below HB.out);have hd:=h.1;have kd:=k.1;clear h k hX hY hR hB;have n1:¬ w.heap.size=w.heap.size+1+1:=by omega
 have n2:¬ w.heap.size+1+1=w.heap.size:=by omega
 have HL:=Hh hle;clear hle;have hst:(s == !s)=false:=by cases s <;> rfl
 have tok0:True:=trivial;go_enter Tryz.func71,Tryz.ntmps71;go_wp2_with (first
  | (go_at_call 117;have _t:=tok0;refine(zdv A B _ _ xs ys _ H1.out H2.out (by omega) (by omega)).mono ?_;intro e w1 h;obtain⟨rfl,b1⟩:=h.1 HL.out;clear h tok0 _t;obtain⟨x1,x2,_,_,_⟩:=HX.out.below b1;obtain⟨z1,z2,_,_,_⟩:=HY.out.below b1)
  | (go_at_call 117;go_loud (refine(zdv B A _ _ ys xs _ (H2.out.below b1) (H1.out.below b1) (by omega) (by omega)).mono ?_;intro e w3 h;obtain⟨A1,c1,r1,rfl,q1,k1,v1,b3⟩:=h.2 (Nat.le_of_lt HL.out);clear h x1 x2 z1 z2;obtain⟨x1,x2,_,_,_⟩:=(HX.out.below b1).below b3;obtain⟨z1,z2,_,_,_⟩:=(HY.out.below b1).below b3;have l1:=zdw kd kl k1 v1;have HV:=Hh v1;clear v1))
  | (go_at_call 94;go_loud (refine(zcb (!s) _ _ r1 _ q1 (by omega)).mono ?_;rintro e w2 ⟨A2,c2,s2,r2,rfl,q2,k2,v2,b2⟩;obtain⟨y1,y2,y3,y4,_⟩:=((HR.out.below b1).below b3).below b2;have HV2:=Hh v2;clear v2)))
 obtain⟨e1,e2,_,_,_⟩:=((((HR.out.below b1).below b3).below b2).set (.bool s2) (.slice A2 r2.length c2));refine bodyPost_ret (v:=.agg #[.bool s2,.slice A2 r2.length c2]) (by simp[results,Tryz.results71,go_sem,e1,e2]) rfl ?_;have hb1:=HB.out.trans (b1.mono HB.out.size);have hb3:=hb1.trans (b3.mono hb1.size);refine RetI.box (by omega) (((HR.out.below b1).below b3).below b2) q2 k2 (HV2.out.trans ?_) (hb3.trans (b2.mono hb3.size));have hle:=HL.out;unfold ival;rw[HV.out];cases s <;> simp <;> omega
theorem zbj (s t:Bool)(A B:Option Addr)(c d:Nat)(xs ys:List Nat)(w:World)(h:Us w A c xs)(k:Us w B d ys)(hl:xs.length≤60000)(kl:ys.length≤60000) :
  Calls Tryz.prog 71 #[.agg #[.bool s,.slice A xs.length c],.agg #[.bool t,.slice B ys.length d]] w (RetI (ival s xs+ival t ys) w):=by
 by_cases hst:s=t
 ·subst hst;exact zni s A B c d xs ys w h k hl kl
 ·obtain rfl:t = !s:=by cases s <;> cases t <;> simp_all
  rcases Nat.lt_or_ge (val xs) (val ys) with hlt|hge
  ·exact znk s A B c d xs ys w h k hl kl hlt
  ·exact znj s A B c d xs ys w h k hl kl hge
theorem zrx (W:World)(u v:Int)(U V:Nat)(t:TypeId)(hu:u=(U:Int))(hv:v=(V:Int))(lu:U<4294967296)(lv:V<4294967296) :
  Us (W.alloc (.cells #[.int .u32 u,.int .u32 v] t)) (some ⟨W.heap.size,0,none⟩) 2 [U,V]:=by
 subst hu hv;exact ztM W U V t lu lv
theorem zfH (w:World)(o:Obj)(u v:Int)(U V:Nat)(t:TypeId)(hu:u=(U:Int))(hv:v=(V:Int))(lu:U<4294967296)(lv:V<4294967296) :
  Us ((w.alloc o).alloc (.cells #[.int .u32 u,.int .u32 v] t)) (some ⟨w.heap.size+1,0,none⟩) 2 [U,V]:=by
 have h:=zrx (w.alloc o) u v U V t hu hv lu lv;have e:(w.alloc o).heap.size=w.heap.size+1:=by simp
 rw[e] at h;exact h
theorem zfI (n:Int)(h0 : -9223372036854775808≤n)(h1:n<0):IntKind.u64.wrap (-IntKind.u64.wrap n) = -n:=by
 simp[IntKind.wrap,IntKind.bits,IntKind.signed];omega
theorem zky (n:Int)(m:Nat)(h0 : -9223372036854775808≤n)(h1:n<0)(hm:m=n.natAbs):IntKind.u64.wrap (-IntKind.u64.wrap n)%4294967296=((m%4294967296:Nat):Int):=by
 rw[zfI n h0 h1];omega
theorem zkz (n:Int)(m:Nat)(h0 : -9223372036854775808≤n)(h1:n<0)(hm:m=n.natAbs):IntKind.u64.wrap (-IntKind.u64.wrap n) / 4294967296%4294967296=((m / 4294967296:Nat):Int):=by
 rw[zfI n h0 h1];omega
theorem zjt (n:Int)(m:Nat)(h0 : -9223372036854775808≤n)(h1:n<0)(hm:m=n.natAbs):(IntKind.u64.wrap (-IntKind.u64.wrap n)).tmod 4294967296%4294967296=((m%4294967296:Nat):Int):=by
 rw[zfI n h0 h1,Int.tmod_eq_emod_of_nonneg (by omega)];omega
theorem zju (n:Int)(m:Nat)(h0 : -9223372036854775808≤n)(h1:n<0)(hm:m=n.natAbs):IntKind.u64.wrap ((IntKind.u64.wrap (-IntKind.u64.wrap n)).tdiv 4294967296)%4294967296=((m / 4294967296:Nat):Int):=by
 rw[zfI n h0 h1,Int.tdiv_eq_ediv_of_nonneg (by omega),IntWalk.u64_in _ (by omega)];omega
theorem ztN (m:Nat):val [m%4294967296,m / 4294967296]=m:=by
 simp only[val];omega
theorem zfJ {n:Int}{m:Nat}{r:List Nat}(hm:m=n.natAbs)(h:val r=val [m%4294967296,m / 4294967296]):ival (decide (n<0)) r=n:=by
 rw[ztN] at h;unfold ival;rw[h];by_cases hn:n<0 <;> simp[hn] <;> omega
theorem zkA (n:Int)(w:World)(h0 : -9223372036854775808≤n)(h1:n≤9223372036854775807) :
  Calls Tryz.prog 159 #[.int .i64 n] w (RetI n w):=by
 obtain⟨m,hm⟩:∃m,m=n.natAbs:=⟨_,rfl⟩;have lu:m%4294967296<4294967296:=Nat.mod_lt _ (by decide);have lv:m / 4294967296<4294967296:=by omega
 obtain⟨hR,hB⟩:=box1 w (.bool false) (.slice none 0 0) 48;have HR:=Hh hR;have HB:=Hh hB;have HM:=Hh hm;clear hR hB;by_cases hn:0≤n
 ·have HL:=Hh (show n%4294967296=((m%4294967296:Nat):Int) by omega);have HH:=Hh (show n / 4294967296=((m / 4294967296:Nat):Int) by omega);clear hm lu lv;have HU:=Hh (zfH w (.cells #[.bool false,.slice none 0 0] 48) _ _ _ _ 137 HL.out HH.out (Nat.mod_lt _ (by decide)) (by have:=HM.out;omega));clear HL HH;go_enter Tryz.func159,Tryz.ntmps159;go_wp2_with (first
   | (go_at_call 204;go_loud (refine(zim _ _ [m%4294967296,m / 4294967296] _ HU.out (by simp)).mono ?_;rintro e w1 ⟨A1,c1,r1,rfl,q1,k1,v1,b1⟩;obtain⟨x1,x2,x3,x4,_⟩:=(HR.out.alloc _).below b1;have HV:=Hh v1;clear v1))
   | (go_at_call 203;refine(zbA _ _ _ r1 _ q1 k1).mono ?_;rintro e w2 ⟨A2,c2,s2,r2,rfl,q2,k2,v2,b2⟩;obtain⟨y1,y2,y3,y4,_⟩:=((HR.out.alloc _).below b1).below b2;have HV2:=Hh v2;clear v2))
  obtain⟨e1,e2,_,_,_⟩:=((((HR.out.alloc _).below b1).below b2).set (.bool s2) (.slice A2 r2.length c2));refine bodyPost_ret (v:=.agg #[.bool s2,.slice A2 r2.length c2]) (by simp[results,Tryz.results159,go_sem,e1,e2]) rfl ?_;have hb1:=(HB.out.alloc (by simp) _).trans (b1.mono (by simp <;> omega));exact RetI.box (by omega) (((HR.out.alloc _).below b1).below b2) q2 k2 (HV2.out.trans (zfJ HM.out HV.out)) (hb1.trans (b2.mono hb1.size))
 ·have HL:=Hh (zky n m h0 (by omega) hm);have HH:=Hh (zkz n m h0 (by omega) hm);clear hm lu lv;have HU:=Hh (zfH w (.cells #[.bool false,.slice none 0 0] 48) _ _ _ _ 137 HL.out HH.out (Nat.mod_lt _ (by decide)) (by have:=HM.out;omega));clear HL HH;go_enter Tryz.func159,Tryz.ntmps159;go_wp2_with (first
   | (go_at_call 204;go_loud (refine(zim _ _ [m%4294967296,m / 4294967296] _ HU.out (by simp)).mono ?_;rintro e w1 ⟨A1,c1,r1,rfl,q1,k1,v1,b1⟩;obtain⟨x1,x2,x3,x4,_⟩:=(HR.out.alloc _).below b1;have HV:=Hh v1;clear v1))
   | (go_at_call 203;refine(zbA true _ _ r1 _ q1 k1).mono ?_;rintro e w2 ⟨A2,c2,s2,r2,rfl,q2,k2,v2,b2⟩;obtain⟨y1,y2,y3,y4,_⟩:=((HR.out.alloc _).below b1).below b2;have HV2:=Hh v2;clear v2))
  obtain⟨e1,e2,_,_,_⟩:=((((HR.out.alloc _).below b1).below b2).set (.bool s2) (.slice A2 r2.length c2));refine bodyPost_ret (v:=.agg #[.bool s2,.slice A2 r2.length c2]) (by simp[results,Tryz.results159,go_sem,e1,e2]) rfl ?_;have hb1:=(HB.out.alloc (by simp) _).trans (b1.mono (by simp <;> omega));have hi:=zfJ HM.out HV.out;rw[decide_eq_true (by omega)] at hi;exact RetI.box (by omega) (((HR.out.alloc _).below b1).below b2) q2 k2 (HV2.out.trans hi) (hb1.trans (b2.mono hb1.size))
theorem zba (n:Int)(w:World)(h0 : -9223372036854775808≤n)(h1:n≤9223372036854775807) :
  Calls Tryz.prog 48 #[.int .i64 n] w (RetI n w):=by
 obtain⟨m,hm⟩:∃m,m=n.natAbs:=⟨_,rfl⟩;obtain⟨hR,hB⟩:=box1 w (.bool false) (.slice none 0 0) 48;have HR:=Hh hR;have HB:=Hh hB;have HM:=Hh hm;clear hR hB;by_cases hn:0≤n
 ·have HL:=Hh (show n%4294967296=((m%4294967296:Nat):Int) by omega);have HH:=Hh (show n / 4294967296=((m / 4294967296:Nat):Int) by omega);clear hm;have HU:=Hh (zfH w (.cells #[.bool false,.slice none 0 0] 48) _ _ _ _ 137 HL.out HH.out (Nat.mod_lt _ (by decide)) (by have:=HM.out;omega));clear HL HH;go_enter Tryz.func48,Tryz.ntmps48;go_wp2_with (go_at_call 94;refine(zcb _ _ _ [m%4294967296,m / 4294967296] _ HU.out (by simp)).mono ?_;rintro e w2 ⟨A2,c2,s2,r2,rfl,q2,k2,v2,b2⟩;obtain⟨y1,y2,y3,y4,_⟩:=(HR.out.alloc _).below b2;have HV2:=Hh v2;clear v2);obtain⟨e1,e2,_,_,_⟩:=(((HR.out.alloc _).below b2).set (.bool s2) (.slice A2 r2.length c2));refine bodyPost_ret (v:=.agg #[.bool s2,.slice A2 r2.length c2]) (by simp[results,Tryz.results48,go_sem,e1,e2]) rfl ?_;exact RetI.box (by omega) ((HR.out.alloc _).below b2) q2 k2 (HV2.out.trans (zfJ HM.out rfl)) ((HB.out.alloc (by simp) _).trans (b2.mono (by simp <;> omega)))
 ·have HL:=Hh (zjt n m h0 (by omega) hm);have HH:=Hh (zju n m h0 (by omega) hm);clear hm;have HU:=Hh (zfH w (.cells #[.bool false,.slice none 0 0] 48) _ _ _ _ 137 HL.out HH.out (Nat.mod_lt _ (by decide)) (by have:=HM.out;omega));clear HL HH;go_enter Tryz.func48,Tryz.ntmps48;go_wp2_with (go_at_call 94;refine(zcb true _ _ [m%4294967296,m / 4294967296] _ HU.out (by simp)).mono ?_;rintro e w2 ⟨A2,c2,s2,r2,rfl,q2,k2,v2,b2⟩;obtain⟨y1,y2,y3,y4,_⟩:=(HR.out.alloc _).below b2;have HV2:=Hh v2;clear v2);obtain⟨e1,e2,_,_,_⟩:=(((HR.out.alloc _).below b2).set (.bool s2) (.slice A2 r2.length c2));refine bodyPost_ret (v:=.agg #[.bool s2,.slice A2 r2.length c2]) (by simp[results,Tryz.results48,go_sem,e1,e2]) rfl ?_;have hi:=zfJ (n:=n) HM.out rfl;rw[decide_eq_true (by omega)] at hi;exact RetI.box (by omega) ((HR.out.alloc _).below b2) q2 k2 (HV2.out.trans hi) ((HB.out.alloc (by simp) _).trans (b2.mono (by simp <;> omega)))
theorem zfK (s:Bool)(r:List Nat):val r=(ival s r).natAbs:=by
 unfold ival;cases s <;> simp
theorem zbH {s:Bool}{r:List Nat}{n:Int}(hc:zaE s r)(hv:ival s r=n)(k:Nat)(hn:n.natAbs<4294967296^k):r.length≤k :=
 zjn hc.1 (by rw[zfK s r,hv];exact hn)
theorem zdx {s:Bool}{xs:List Nat}(hd:Dig xs){k:Nat}(hl:xs.length≤k):(ival s xs).natAbs<4294967296^k:=by
 rw[←zfK];exact Nat.lt_of_lt_of_le (zbz hd) (Nat.pow_le_pow_right (by decide) hl)
theorem zoy {s t:Bool}{r ys:List Nat}(kd:Dig ys)(hc:zaE s r)(hv:ival s r = -ival t ys):r.length≤ys.length :=
 zbH hc hv _ (by rw[Int.natAbs_neg,←zfK];exact zbz kd)
theorem zeW {k:IntKind}{a b:Int}(h:a=b):Ending.returned (.int k a)=.returned (.int k b):=by rw[h]
def ordI (a b:Int):Int:=if a<b then -1 else if a=b then 0 else 1
theorem zlH (s t:Bool)(A B:Option Addr)(c d:Nat)(xs ys:List Nat)(w:World)(h:Us w A c xs)(k:Us w B d ys)(hl:xs.length≤60000)(kl:ys.length≤60000) :
  Calls Tryz.prog 208 #[.agg #[.bool s,.slice A xs.length c],.agg #[.bool t,.slice B ys.length d]] w (RetI (ival s xs-ival t ys) w):=by
 have hcap:=h.cap;have kcap:=k.cap;obtain⟨hX,hY,hR,hB⟩:=box3 w (.bool s) (.slice A xs.length c) (.bool t) (.slice B ys.length d) (.bool false) (.slice none 0 0) 48;have HX:=Hh hX.drew;have HY:=Hh hY.drew;have HR:=Hh hR.drew;have HB:=Hh (Below.drew' hB);have H1:=Hh (h.below HB.out);have H2:=Hh (k.below HB.out);have kd:=k.1;clear h k hX hY hR hB;have n1:¬ w.heap.size=w.heap.size+1+1:=by omega
 have n2:¬ w.heap.size+1+1=w.heap.size:=by omega
 go_enter Tryz.func208,Tryz.ntmps208;go_wp2_with fail;go_region_held3 (fun w'=>w'.cell? ⟨w.heap.size,0,none⟩=some (.bool s)∧w'.cell? ⟨w.heap.size,1,none⟩=some (.slice A xs.length c)∧w'.cell? ⟨w.heap.size+1,0,none⟩=some (.bool t)∧w'.cell? ⟨w.heap.size+1,1,none⟩=some (.slice B ys.length d))
  (first|go_keep|fail)
  (first
   | (go_at_call 245;refine(zos t _ _ ys _ H2.out (by omega)).mono ?_;rintro e w1 ⟨A1,c1,s1,r1,rfl,q1,k1,v1,b1⟩;obtain⟨x1,x2,_,_,_⟩:=HX.out.below b1;obtain⟨z1,z2,_,_,_⟩:=HY.out.below b1;have l1:r1.length≤60000:=Nat.le_trans (zoy kd k1 v1) kl)
   | (go_at_call 207;refine(zlG s s1 _ _ _ _ xs r1 _ (H1.out.below b1) q1 hl l1).mono ?_;rintro e w2 ⟨A2,c2,s2,r2,rfl,q2,k2,v2,b2⟩;obtain⟨x1,x2,_,_,_⟩:=(HX.out.below b1).below b2;obtain⟨z1,z2,_,_,_⟩:=(HY.out.below b1).below b2;obtain⟨y1,y2,y3,y4,_⟩:=(HR.out.below b1).below b2))
 go_wp2;obtain⟨e1,e2,_,_,_⟩:=(((HR.out.below b1).below b2).set (.bool s2) (.slice A2 r2.length c2));refine bodyPost_ret (v:=.agg #[.bool s2,.slice A2 r2.length c2]) (by simp[results,Tryz.results208,go_sem,e1,e2]) rfl ?_;exact RetI.box (by omega) ((HR.out.below b1).below b2) q2 k2 (by rw[v2,v1,Int.sub_eq_add_neg]) ((HB.out.trans (b1.mono HB.out.size)).trans (b2.mono (HB.out.trans (b1.mono HB.out.size)).size))
theorem zgs (s t:Bool)(A B:Option Addr)(c d:Nat)(xs ys:List Nat)(w:World)(h:Us w A c xs)(k:Us w B d ys)(hl:xs.length≤60000)(kl:ys.length≤60000) :
  Calls Tryz.prog 113 #[.agg #[.bool s,.slice A xs.length c],.agg #[.bool t,.slice B ys.length d]] w (RetI (ival s xs-ival t ys) w):=by
 have hcap:=h.cap;have kcap:=k.cap;obtain⟨hX,hY,hR,hB⟩:=box3 w (.bool s) (.slice A xs.length c) (.bool t) (.slice B ys.length d) (.bool false) (.slice none 0 0) 48;have HX:=Hh hX.drew;have HY:=Hh hY.drew;have HR:=Hh hR.drew;have HB:=Hh (Below.drew' hB);have H1:=Hh (h.below HB.out);have H2:=Hh (k.below HB.out);have kd:=k.1;clear h k hX hY hR hB;have n1:¬ w.heap.size=w.heap.size+1+1:=by omega
 have n2:¬ w.heap.size+1+1=w.heap.size:=by omega
 go_enter Tryz.func113,Tryz.ntmps113;go_wp2_with fail;go_region_held3 (fun w'=>w'.cell? ⟨w.heap.size,0,none⟩=some (.bool s)∧w'.cell? ⟨w.heap.size,1,none⟩=some (.slice A xs.length c)∧w'.cell? ⟨w.heap.size+1,0,none⟩=some (.bool t)∧w'.cell? ⟨w.heap.size+1,1,none⟩=some (.slice B ys.length d))
  (first|go_keep|fail)
  (first
   | (go_at_call 108;refine(zbB t _ _ ys _ H2.out (by omega)).mono ?_;rintro e w1 ⟨A1,c1,s1,r1,rfl,q1,k1,v1,b1⟩;obtain⟨x1,x2,_,_,_⟩:=HX.out.below b1;obtain⟨z1,z2,_,_,_⟩:=HY.out.below b1;have l1:r1.length≤60000:=Nat.le_trans (zoy kd k1 v1) kl)
   | (go_at_call 71;refine(zbj s s1 _ _ _ _ xs r1 _ (H1.out.below b1) q1 hl l1).mono ?_;rintro e w2 ⟨A2,c2,s2,r2,rfl,q2,k2,v2,b2⟩;obtain⟨x1,x2,_,_,_⟩:=(HX.out.below b1).below b2;obtain⟨z1,z2,_,_,_⟩:=(HY.out.below b1).below b2;obtain⟨y1,y2,y3,y4,_⟩:=(HR.out.below b1).below b2))
 go_wp2;obtain⟨e1,e2,_,_,_⟩:=(((HR.out.below b1).below b2).set (.bool s2) (.slice A2 r2.length c2));refine bodyPost_ret (v:=.agg #[.bool s2,.slice A2 r2.length c2]) (by simp[results,Tryz.results113,go_sem,e1,e2]) rfl ?_;exact RetI.box (by omega) ((HR.out.below b1).below b2) q2 k2 (by rw[v2,v1,Int.sub_eq_add_neg]) ((HB.out.trans (b1.mono HB.out.size)).trans (b2.mono (HB.out.trans (b1.mono HB.out.size)).size))
theorem zry (n:Int)(w:World) :
  Calls Tryz.prog 197 #[.int .i64 n] w (RetI (shlI 1 n) w):=by
 obtain⟨hR,hB⟩:=box1 w (.bool false) (.slice none 0 0) 48;have HR:=Hh hR;have HB:=Hh hB;clear hR hB;go_enter Tryz.func197,Tryz.ntmps197;go_wp2_with (first
  | (go_at_call 159;refine(zkA 1 _ (by decide) (by decide)).mono ?_;rintro e w1 ⟨A1,c1,s1,r1,rfl,q1,k1,v1,b1⟩;have l1:r1.length≤1:=zbH k1 v1 1 (by decide);have HV:=Hh v1;clear v1)
  | (go_at_call 234;refine(zrw s1 _ _ r1 n _ q1 (by omega)).mono ?_;rintro e w2 ⟨A2,c2,s2,r2,rfl,q2,k2,v2,b2⟩;obtain⟨y1,y2,y3,y4,_⟩:=(HR.out.below b1).below b2;have HV2:=Hh v2;clear v2))
 obtain⟨e1,e2,_,_,_⟩:=(((HR.out.below b1).below b2).set (.bool s2) (.slice A2 r2.length c2));refine bodyPost_ret (v:=.agg #[.bool s2,.slice A2 r2.length c2]) (by simp[results,Tryz.results197,go_sem,e1,e2]) rfl ?_;exact RetI.box (by omega) ((HR.out.below b1).below b2) q2 k2 (by rw[HV2.out,HV.out]) ((HB.out.trans (b1.mono HB.out.size)).trans (b2.mono (HB.out.trans (b1.mono HB.out.size)).size))
theorem zbL (n:Int)(w:World) :
  Calls Tryz.prog 109 #[.int .i64 n] w (RetI (shlI 1 n) w):=by
 obtain⟨hR,hB⟩:=box1 w (.bool false) (.slice none 0 0) 48;have HR:=Hh hR;have HB:=Hh hB;clear hR hB;go_enter Tryz.func109,Tryz.ntmps109;go_wp2_with (first
  | (go_at_call 48;refine(zba 1 _ (by decide) (by decide)).mono ?_;rintro e w1 ⟨A1,c1,s1,r1,rfl,q1,k1,v1,b1⟩;have l1:r1.length≤1:=zbH k1 v1 1 (by decide);have HV:=Hh v1;clear v1)
  | (go_at_call 153;refine(zou s1 _ _ r1 n _ q1 (by omega)).mono ?_;rintro e w2 ⟨A2,c2,s2,r2,rfl,q2,k2,v2,b2⟩;obtain⟨y1,y2,y3,y4,_⟩:=(HR.out.below b1).below b2;have HV2:=Hh v2;clear v2))
 obtain⟨e1,e2,_,_,_⟩:=(((HR.out.below b1).below b2).set (.bool s2) (.slice A2 r2.length c2));refine bodyPost_ret (v:=.agg #[.bool s2,.slice A2 r2.length c2]) (by simp[results,Tryz.results109,go_sem,e1,e2]) rfl ?_;exact RetI.box (by omega) ((HR.out.below b1).below b2) q2 k2 (by rw[HV2.out,HV.out]) ((HB.out.trans (b1.mono HB.out.size)).trans (b2.mono (HB.out.trans (b1.mono HB.out.size)).size))
theorem zoz {s:Bool}{r:List Nat}{a b:Int}(hc:zaE s r)(hv:ival s r=a-b) :
  (r.length=0→ordI a b=0)∧(r.length≠0→s=true→ordI a b = -1)∧(r.length≠0→s=false→ordI a b=1):=by
 refine⟨fun h=>?_,fun h hs=>?_,fun h hs=>?_⟩
 ·obtain rfl:=List.eq_nil_of_length_eq_zero h;rw[zfG] at hv;unfold ordI;rw[if_neg (by omega),if_pos (by omega)]
 ·subst hs;have:val r≠0:=fun e=>hc.2 rfl (zbs hc.1 e);unfold ival at hv;simp only[if_true] at hv;unfold ordI;rw[if_pos (by omega)]
 ·subst hs;have:val r≠0:=fun e=>h (by rw[zbs hc.1 e];rfl);unfold ival at hv;simp only[Bool.false_eq_true,if_false] at hv;unfold ordI;rw[if_neg (by omega),if_neg (by omega)]
theorem zvc {xs ys:List Nat}:cmpN (val ys) (val xs)=ordI (ival true xs) (ival true ys):=by
 unfold cmpN ordI ival;simp only[if_true];split <;> split <;> (try split) <;> (try split) <;> omega
theorem zvd {xs ys:List Nat}:cmpN (val xs) (val ys)=ordI (ival false xs) (ival false ys):=by
 unfold cmpN ordI ival;simp only[Bool.false_eq_true,if_false];split <;> split <;> (try split) <;> (try split) <;> omega
theorem zlI (s t:Bool)(A B:Option Addr)(c d:Nat)(xs ys:List Nat)(w:World)(h:Us w A c xs)(k:Us w B d ys)(hl:xs.length≤60000)(kl:ys.length≤60000)(hc:zaE s xs)(kc:zaE t ys) :
  Calls Tryz.prog 160 #[.agg #[.bool s,.slice A xs.length c],.agg #[.bool t,.slice B ys.length d]] w fun e w'=>e=.returned (.int .i64 (ordI (ival s xs) (ival t ys)))∧Below w.heap.size w w':=by
 have hcap:=h.cap;have kcap:=k.cap;obtain⟨hX,hY,hB⟩:=box2 w (.bool s) (.slice A xs.length c) (.bool t) (.slice B ys.length d) 48;have HB:=Hh hB;have H1:=Hh (h.below HB.out);have H2:=Hh (k.below HB.out);obtain⟨z,hz⟩:∃z,z=ordI (ival s xs) (ival t ys):=⟨_,rfl⟩;rw[←hz];have HZ:=Hh hz;clear h k hX hY hB hz;cases s <;> cases t
 ·go_enter Tryz.func160,Tryz.ntmps160;go_wp2_with (go_at_call 205;refine(zko _ _ _ _ xs ys _ H1.out H2.out (by omega) (by omega)).mono ?_;rintro e w1 ⟨rfl,b⟩;rw[zvd,←HZ.out]);go_ret;exact⟨rfl,HB.out.trans (b.mono HB.out.size)⟩
 ·go_enter Tryz.func160,Tryz.ntmps160;go_wp2_with fail;go_ret;refine⟨zeW ?_,HB.out⟩;rw[HZ.out];have:=kc.2 rfl;have h2:val ys≠0:=fun e=>this (zbs kc.1 e);unfold ordI ival;simp only[if_true,Bool.false_eq_true,if_false];rw[if_neg (by omega),if_neg (by omega)]
 ·go_enter Tryz.func160,Tryz.ntmps160;go_wp2_with fail;go_ret;refine⟨zeW ?_,HB.out⟩;rw[HZ.out];have:=hc.2 rfl;have h2:val xs≠0:=fun e=>this (zbs hc.1 e);unfold ordI ival;simp only[if_true,Bool.false_eq_true,if_false];rw[if_pos (by omega)]
 ·go_enter Tryz.func160,Tryz.ntmps160;go_wp2_with (go_at_call 205;refine(zko _ _ _ _ ys xs _ H2.out H1.out (by omega) (by omega)).mono ?_;rintro e w1 ⟨rfl,b⟩;rw[zvc,←HZ.out]);go_ret;exact⟨rfl,HB.out.trans (b.mono HB.out.size)⟩
theorem zaf (s t:Bool)(A B:Option Addr)(c d:Nat)(xs ys:List Nat)(w:World)(h:Us w A c xs)(k:Us w B d ys)(hl:xs.length≤60000)(kl:ys.length≤60000) :
  Calls Tryz.prog 106 #[.agg #[.bool s,.slice A xs.length c],.agg #[.bool t,.slice B ys.length d]] w fun e w'=>e=.returned (.int .i64 (ordI (ival s xs) (ival t ys)))∧Below w.heap.size w w':=by
 have hcap:=h.cap;have kcap:=k.cap;obtain⟨hX,hY,hB⟩:=box2 w (.bool s) (.slice A xs.length c) (.bool t) (.slice B ys.length d) 48;have HB:=Hh hB;have H1:=Hh (h.below HB.out);have H2:=Hh (k.below HB.out);obtain⟨z,hz⟩:∃z,z=ordI (ival s xs) (ival t ys):=⟨_,rfl⟩;rw[←hz];have HZ:=Hh hz;clear h k hX hY hB hz;go_enter Tryz.func106,Tryz.ntmps106;go_wp2_with (go_at_call 113;refine(zgs s t _ _ _ _ xs ys _ H1.out H2.out hl kl).mono ?_;rintro e w1 ⟨A1,c1,s1,r1,rfl,q1,k1,v1,b1⟩;have HV:=Hh v1;have rcap:=q1.cap;clear v1)
 ·go_ret;have h0:((r1.length:Int)==0)=true:=by assumption
  exact⟨zeW (by rw[HZ.out];exact((zoz k1 HV.out).1 (by rw[beq_iff_eq] at h0;omega)).symm),(HB.out.trans (b1.mono HB.out.size)).alloc (Nat.le_trans HB.out.size b1.size) _⟩
 ·go_ret;have h0:((r1.length:Int)==0)=false:=by assumption
  have h1:s1=true:=by assumption
  exact⟨zeW (by rw[HZ.out];exact((zoz k1 HV.out).2.1 (by rw[beq_eq_false_iff_ne] at h0;omega) h1).symm),(HB.out.trans (b1.mono HB.out.size)).alloc (Nat.le_trans HB.out.size b1.size) _⟩
 ·go_ret;have h0:((r1.length:Int)==0)=false:=by assumption
  have h1:s1=false:=by assumption
  exact⟨zeW (by rw[HZ.out];exact((zoz k1 HV.out).2.2 (by rw[beq_eq_false_iff_ne] at h0;omega) h1).symm),(HB.out.trans (b1.mono HB.out.size)).alloc (Nat.le_trans HB.out.size b1.size) _⟩
theorem zve (n:Nat):((n:Int)==0) = !decide (0<n):=by
 cases n with
 | zero=>rfl
 | succ n =>
  rw[beq_eq_false_iff_ne.2 (by omega),decide_eq_true (by omega)];rfl
def zdO (s:Bool)(xs:List Nat):Bool:=zhz xs&&(!s||decide (0<xs.length))
theorem zcc (s:Bool)(A:Option Addr)(c:Nat)(xs:List Nat)(w:World)(h:Us w A c xs)(hl:xs.length≤60000) :
  Calls Tryz.prog 77 #[.agg #[.bool s,.slice A xs.length c]] w fun e w'=>e=.returned (.bool (zdO s xs))∧Below w.heap.size w w':=by
 have hcap:=h.cap;obtain⟨hX,hB⟩:=box1 w (.bool s) (.slice A xs.length c) 48;have HB:=Hh hB;have H1:=Hh (h.below HB.out);obtain⟨b,hb⟩:∃b,b=zhz xs:=⟨_,rfl⟩;unfold zdO;rw[←hb];have HR:=Hh hb;clear h hX hB hb;cases b <;> cases s
 all_goals
  go_enter Tryz.func77,Tryz.ntmps77;go_wp2_with (go_at_call 125;refine(zna _ _ xs _ H1.out (by omega)).mono ?_;rintro e w' ⟨rfl,rfl⟩;rw[←HR.out]);go_ret;exact⟨by simp[zve],HB.out⟩
end Go.Proofs.YtfjajpnfjjdnpaaGreatDoor

namespace Go.Proofs.YtfjajpnfjjdnpaaGreatDoor.Nds
theorem zdy {x:Nd}{p q:Int→Bool}(h:∀i,i<4→p (x.kid i)=q (x.kid i)):x.each p=x.each q:=by
 have h0:p x.a=q x.a:=h 0 (by omega);have h1:p x.b=q x.b:=h 1 (by omega);have h2:p x.c=q x.c:=h 2 (by omega);have h3:p x.d=q x.d:=h 3 (by omega);unfold Nd.each;rw[h0,h1,h2,h3]
theorem zoA {x:Nd}{p:Int→Bool}{i:Nat}(hi:i<4)(h:p (x.kid i)=false):x.each p=false:=by
 cases hq:x.each p
 ·rfl
 ·have:=zaV.1 hq i hi;rw[h] at this;cases this
def zdX (es:List Bool)(x:Nd):Bool:=x.each fun c=>c==0||(decide (1<x.lv)&&es.getD c.toNat false)
def emps (l:List Nd):List Bool:=l.foldl (fun es x=>es++[zdX es x]) [true]
def empB (l:List Nd)(n:Nat):Bool:=(emps l).getD n false
def zat (l:List Nd)(x:Nd):Bool:=zdX (emps l) x
theorem zdh (l:List Nd)(x:Nd):emps (l++[x])=emps l++[zdX (emps l) x]:=by
 unfold emps;rw[List.foldl_append];rfl
theorem zis (l:List Nd):(emps l).length=l.length+1:=by
 suffices h:∀k,k≤l.length→(emps (l.take k)).length=k+1 by
  have:=h l.length (Nat.le_refl _)
  rwa [List.take_of_length_le (Nat.le_refl _)] at this
 intro k
 induction k with
 | zero=>intro _;rfl
 | succ k ih =>
  intro hk;rw[zcE (by omega),zdh,List.length_append,ih (by omega)];rfl
theorem zgt (l:List Nd):∀k,k≤l.length→emps (l.take k)=(emps l).take (k+1):=by
 suffices h:∀d k,k+d=l.length→emps (l.take k)=(emps l).take (k+1) from fun k hk=>h (l.length-k) k (by omega)
 intro d
 induction d with
 | zero =>
  intro k hk;rw[List.take_of_length_le (by omega),List.take_of_length_le (by rw[zis];omega)]
 | succ d ih =>
  intro k hk;have h:=ih (k+1) (by omega);rw[zcE (by omega),zdh] at h;have hl:(emps (l.take k)).length=k+1:=by rw[zis,List.length_take];omega
  have:=congrArg (List.take (k+1)) h;rw[List.take_append_of_le_length (by omega),List.take_of_length_le (by omega),List.take_take] at this;rw[this];congr 1;omega
theorem ztO {l:List Nd}{i:Nat}(hi:i<l.length):empB l (i+1)=zdX (emps (l.take i)) (at_ l i):=by
 have h:=zgt l (i+1) (by omega);rw[zcE hi,zdh] at h;have hl:(emps (l.take i)).length=i+1:=by rw[zis,List.length_take];omega
 have h2:((emps l).take (i+1+1))[i+1]?=some (zdX (emps (l.take i)) (at_ l i)):=by
  rw[←h,List.getElem?_append_right (by omega),hl];simp
 rw[List.getElem?_take,if_pos (by omega)] at h2;unfold empB;rw[List.getD_eq_getElem?_getD,h2];rfl
theorem zoB (l:List Nd):empB l 0=true:=by
 have h:=zgt l 0 (by omega);have h2:((emps l).take 1)[0]?=some true:=by
  rw[←h];rfl
 rw[List.getElem?_take,if_pos (by omega)] at h2;unfold empB;rw[List.getD_eq_getElem?_getD,h2];rfl
theorem zap {l:List Nd}{x:Nd}(h:fitB l x=true):1≤x.lv∧x.lv≤1329:=by
 unfold fitB at h;rw[Bool.and_eq_true,decide_eq_true_iff] at h;exact h.1
theorem zaj {l:List Nd}{x:Nd}(h:fitB l x=true){i:Nat}(hi:i<4):kidB l x.lv (x.kid i)=true:=by
 unfold fitB at h;rw[Bool.and_eq_true,zaV] at h;exact h.2 i hi
theorem zaA {l:List Nd}{v k:Int}(hv:v≠1)(h:kidB l v k=true):k=0∨∃m:Nat,k=(m:Int)+1∧m<l.length∧(at_ l m).lv=v-1:=by
 unfold kidB at h;rw[if_neg hv,decide_eq_true_iff] at h;rcases h with h|⟨h1,h2,h3⟩
 ·exact .inl h
 ·refine .inr ⟨k.toNat-1,by omega,by omega,h3⟩
theorem zit {l:List Nd}{i:Nat}{v k:Int}(h:kidB (l.take i) v k=true):kidB l v k=true:=by
 by_cases hv:v=1
 ·subst hv;exact h
 ·have hle:=List.length_take_le' i l;have hli:=List.length_take_le i l;rcases zaA hv h with rfl|⟨m,rfl,hm,hl⟩
  ·unfold kidB;rw[if_neg hv];exact decide_eq_true (.inl rfl)
  ·unfold kidB;rw[if_neg hv];have e:((m:Int)+1).toNat-1=m:=by omega
   rw[zcD (by omega)] at hl;exact decide_eq_true (.inr ⟨by omega,by omega,by rw[e];exact hl⟩)
theorem zlJ {l:List Nd}{i:Nat}{x:Nd}(h:fitB (l.take i) x=true):fitB l x=true:=by
 have h1:=zap h;unfold fitB;rw[Bool.and_eq_true,zaV];exact⟨decide_eq_true h1,fun j hj=>zit (zaj h hj)⟩
theorem zai {l:List Nd}:zac l=true↔∀i,i<l.length→fitB (l.take i) (at_ l i)=true:=by
 unfold zac;rw[List.all_eq_true];exact⟨fun h i hi=>h i (List.mem_range.2 hi),fun h i hi=>h i (List.mem_range.1 hi)⟩
theorem zad {l:List Nd}(h:zac l=true){i:Nat}(hi:i<l.length):fitB l (at_ l i)=true:=zlJ (zai.1 h i hi)
theorem ziu {l:List Nd}{x:Nd}(h:x.lv=1):zat l x=x.each (· == 0):=by
 unfold zat zdX;refine zdy fun i hi=>?_;rw[h];simp
theorem zjv {l:List Nd}{x:Nd}(h:1<x.lv):zat l x=x.each fun c=>c==0||empB l c.toNat:=by
 unfold zat zdX;refine zdy fun i hi=>?_;rw[decide_eq_true h,Bool.true_and];rfl
theorem znl {l:List Nd}{i:Nat}{x:Nd}(hi:i≤l.length)(h:fitB (l.take i) x=true):zdX (emps (l.take i)) x=zat l x:=by
 have hv:=zap h;by_cases h1:x.lv=1
 ·exact(ziu (l:=l.take i) h1).trans (ziu h1).symm
 ·refine(zjv (l:=l.take i) (by omega)).trans (Eq.trans ?_ (zjv (by omega)).symm);refine zdy fun j hj=>?_;rcases zaA h1 (zaj h hj) with e|⟨m,e,hm,_⟩
  ·rw[e];rfl
  ·rw[e];congr 1;have hli:=List.length_take_le i l;unfold empB;rw[zgt l i hi,List.getD_eq_getElem?_getD,List.getD_eq_getElem?_getD,List.getElem?_take,if_pos (by omega)]
theorem zlK {l:List Nd}(h:zac l=true){i:Nat}(hi:i<l.length):empB l (i+1)=zat l (at_ l i):=by
 rw[ztO hi];exact znl (by omega) (zai.1 h i hi)
theorem zlL {l:List Nd}{x:Nd}(h:x.each (· == 0)=true):zat l x=true:=by
 unfold zat zdX;rw[zaV] at h ⊢;intro i hi;rw[h i hi];rfl
theorem zrz {l:List Nd}(h:zac l=true)(hz:∀i,i<l.length→(at_ l i).each (· == 0)=false):∀i,i<l.length→zat l (at_ l i)=false:=by
 intro i
 induction i using Nat.strongRecOn with
 | _ i ih =>
  intro hi;have hf:=zai.1 h i hi;have hv:=zap hf;by_cases h1:(at_ l i).lv=1
  ·rw[ziu h1];exact hz i hi
  ·rw[zjv (by omega)];cases hq:(at_ l i).each fun c=>c==0||empB l c.toNat
   ·rfl
   ·exfalso;have hall:=zaV.1 hq;have hzero:(at_ l i).each (· == 0)=true:=by
     rw[zaV];intro j hj;rcases zaA h1 (zaj hf hj) with e|⟨m,e,hm,_⟩
     ·rw[e];rfl
     ·have hli:=List.length_take_le i l;have ht:=hall j hj;rw[e] at ht;have e2:((m:Int)+1).toNat=m+1:=by omega
      rw[e2,zlK h (by omega),ih m (by omega) (by omega),Bool.or_false] at ht;rw[e];exact ht
    rw[hz i hi] at hzero;cases hzero
end Go.Proofs.YtfjajpnfjjdnpaaGreatDoor.Nds

namespace Go.Proofs.YtfjajpnfjjdnpaaGreatDoor.Nds
def zrA (f:Nat→Nat→Option Nat)(e:Option Nat)(k:Int):Option Nat:=e.bind fun e=>if (e:Int)<k then f k.toNat e else some e
def zcd (f:Nat→Nat→Option Nat)(x:Nd)(e:Nat):Nat→Option Nat
 | 0=>some e
 | k+1=>zrA f (zcd f x e k) (x.kid k)
def wk (l:List Nd):Nat→Nat→Nat→Option Nat
 | 0,_,_=>none
 | m+1,n,e=>(if 1<(at_ l (n-1)).lv then zcd (wk l m) (at_ l (n-1)) e 4 else some e).bind fun e'=>if n=e'+1 then some n else none
theorem zvf {l:List Nd}{m n e v:Nat}(h:wk l m n e=some v):v=n:=by
 cases m with
 | zero=>cases h
 | succ m =>
  unfold wk at h;rw[Option.bind_eq_some_iff] at h;obtain⟨e',_,h2⟩:=h;split at h2
  ·cases h2;rfl
  ·cases h2
def zjw (f:Nat→List Nat→List Nat)(out:List Nat)(k:Int):List Nat:=if 0<k then f k.toNat out else out
def zhq (f:Nat→List Nat→List Nat)(x:Nd)(out:List Nat):Nat→List Nat
 | 0=>out
 | k+1=>zjw f (zhq f x out k) (x.kid k)
def endL (l:List Nd):Nat→Nat→List Nat→List Nat
 | 0,_,out=>out
 | m+1,n,out=>if n∈out then out else (if 1<(at_ l (n-1)).lv then zhq (endL l m) (at_ l (n-1)) out 4 else out)++[n]
theorem zvg {l:List Nd}(hl:zac l=true){n:Nat}(h0:0<n)(hn:n≤l.length)(hv:1<(at_ l (n-1)).lv){i:Nat}(hi:i<4) :
  (at_ l (n-1)).kid i=0∨∃p:Nat,(at_ l (n-1)).kid i=(p:Int)∧0<p∧p<n∧(at_ l (p-1)).lv=(at_ l (n-1)).lv-1:=by
 have hf:=zai.1 hl (n-1) (by omega);rcases zaA (by omega) (zaj hf hi) with e|⟨m,e,hm,hl2⟩
 ·exact .inl e
 ·have hle:=List.length_take_le (n-1) l;refine .inr ⟨m+1,by rw[e];omega,by omega,by omega,?_⟩;rw[zcD (by omega)] at hl2;exact hl2
theorem zjx {f:Nat→List Nat→List Nat}{x:Nd}{out:List Nat}(hf:∀n out,out <+: f n out):∀k,out <+: zhq f x out k
 | 0=>List.prefix_rfl
 | k+1=>by
  unfold zhq zjw;have h:=zjx (x:=x) (out:=out) hf k;split
  ·exact h.trans (hf _ _)
  ·exact h
theorem zlM (l:List Nd):∀m n out,out <+: endL l m n out
 | 0,_,_=>List.prefix_rfl
 | m+1,n,out=>by
  unfold endL;split
  ·exact List.prefix_rfl
  ·split
   ·exact(zjx (fun n out=>zlM l m n out) 4).trans (List.prefix_append _ _)
   ·exact List.prefix_append _ _
theorem zoC {l:List Nd}{m n:Nat}{out:List Nat}(h:n∈out):endL l m n out=out:=by
 cases m with
 | zero=>rfl
 | succ m =>
  unfold endL;rw[if_pos h]
theorem zfL:∀(N:Nat) (out:List Nat),out.Nodup→(∀v∈out,0<v∧v≤N)→out.length≤N
 | 0,out,_,h=>by
  cases out with
  | nil=>exact Nat.le_refl _
  | cons a r=>have:=h a (by simp);omega
 | N+1,out,hd,h=>by
  by_cases hm:N+1∈out
  ·have h1:=zfL N (out.erase (N+1)) (hd.erase _) (fun v hv=>by
    have hv2:=(hd.mem_erase_iff).1 hv;have:=h v hv2.2;have:=hv2.1;omega)
   rw[List.length_erase_of_mem hm] at h1;omega
  ·have:=zfL N out hd (fun v hv=>by
    have:=h v hv;have:v≠N+1:=fun e=>hm (e ▸ hv);omega)
   omega
def upto (e:Nat):List Nat:=List.range' 1 e
theorem zdz {e v:Nat}:v∈upto e↔0<v∧v≤e:=by
 unfold upto;rw[List.mem_range'_1];omega
theorem zgu (e:Nat):upto e++[e+1]=upto (e+1):=by
 unfold upto;rw[List.range'_concat];simp[Nat.add_comm]
theorem zfM (e:Nat):(upto e).length=e:=by
 unfold upto;simp
theorem zoD {e i:Nat}(h:i<e):(upto e)[i]?=some (1+i):=by
 unfold upto;rw[List.getElem?_range' h];simp
theorem zlN {out:List Nat}{e:Nat}(h:out <+: upto e):out=upto out.length:=by
 obtain⟨r,hr⟩:=h;have hlen:=congrArg List.length hr;rw[List.length_append,zfM] at hlen;refine List.ext_getElem (by rw[zfM]) fun i h1 h2=>?_;have h3:(out++r)[i]?=(upto e)[i]?:=by rw[hr]
 rw[List.getElem?_append_left h1,zoD (by omega)] at h3;have h4:=zoD (e:=out.length) h1;rw[List.getElem?_eq_getElem h1] at h3;rw[List.getElem?_eq_getElem h2] at h4;exact Option.some.inj (h3.trans h4.symm)
theorem zta {l:List Nd}(hl:zac l=true):∀(m n e:Nat),0<n→n≤l.length→(at_ l (n-1)).lv≤m→e<n →
  (wk l m n e=some n∧endL l m n (upto e)=upto n)∨(wk l m n e=none∧∀k,¬ endL l m n (upto e) <+: upto k)
 | 0,n,e,h0,hn,hv,_=>by
  have:=zap (zai.1 hl (n-1) (by omega));omega
 | m+1,n,e,h0,hn,hv,he=>by
  have hnot:n∉upto e:=fun h=>by have:=zdz.1 h;omega
  by_cases hlv:1<(at_ l (n-1)).lv
  ·have key:∀k,k≤4→(∃e',e'<n∧zcd (wk l m) (at_ l (n-1)) e k=some e'∧zhq (endL l m) (at_ l (n-1)) (upto e) k=upto e') ∨
     (zcd (wk l m) (at_ l (n-1)) e k=none∧∀j,¬ zhq (endL l m) (at_ l (n-1)) (upto e) k <+: upto j):=by
    intro k
    induction k with
    | zero=>exact fun _=>.inl ⟨e,he,rfl,rfl⟩
    | succ k ih =>
     intro hk;rcases ih (by omega) with⟨e',he',h1,h2⟩|⟨h1,h2⟩
     ·unfold zcd zhq;rw[h1,h2];unfold zrA zjw;rcases zvg hl h0 hn hlv (i:=k) (by omega) with e0|⟨p,e0,hp,hpn,hpl⟩
      ·rw[e0];refine .inl ⟨e',he',?_,rfl⟩;rw[Option.bind_some,if_neg (by omega)]
      ·rw[e0];rw[if_pos (show(0:Int)<(p:Int) by omega),Int.toNat_natCast,Option.bind_some];by_cases hep:e'<p
       ·rw[if_pos (by omega)];rcases zta hl m p e' hp (by omega) (by omega) hep with⟨g1,g2⟩|⟨g1,g2⟩
        ·exact .inl ⟨p,hpn,g1,g2⟩
        ·exact .inr ⟨g1,g2⟩
       ·rw[if_neg (by omega),zoC (zdz.2 ⟨hp,by omega⟩)];exact .inl ⟨e',he',rfl,rfl⟩
     ·unfold zcd zhq;rw[h1];refine .inr ⟨rfl,fun j hj=>h2 j ?_⟩;refine List.IsPrefix.trans ?_ hj;unfold zjw;split
      ·exact zlM l m _ _
      ·exact List.prefix_rfl
   unfold wk endL;rw[if_pos hlv,if_neg hnot,if_pos hlv];rcases key 4 (by omega) with⟨e',he',h1,h2⟩|⟨h1,h2⟩
   ·rw[h1,h2];rw[Option.bind_some];by_cases hne:n=e'+1
    ·rw[if_pos hne,hne,zgu];exact .inl ⟨rfl,rfl⟩
    ·rw[if_neg hne];refine .inr ⟨rfl,fun k hk=>?_⟩;have h3:=zlN hk;have h4:n∈upto e'++[n]:=by simp
     rw[h3,zdz,List.length_append,zfM] at h4;simp at h4;omega
   ·rw[h1];refine .inr ⟨rfl,fun k hk=>h2 k ((List.prefix_append _ _).trans hk)⟩
  ·unfold wk endL;rw[if_neg hlv,if_neg hnot,if_neg hlv];rw[Option.bind_some];by_cases hne:n=e+1
   ·rw[if_pos hne,hne,zgu];exact .inl ⟨rfl,rfl⟩
   ·rw[if_neg hne];refine .inr ⟨rfl,fun k hk=>?_⟩;have h3:=zlN hk;have h4:n∈upto e++[n]:=by simp
    rw[h3,zdz,List.length_append,zfM] at h4;simp at h4;omega
end Go.Proofs.YtfjajpnfjjdnpaaGreatDoor.Nds
