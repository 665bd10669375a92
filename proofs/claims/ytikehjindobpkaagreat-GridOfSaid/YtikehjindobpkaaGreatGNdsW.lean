import Derived.Test.YtikehjindobpkaaGreatGBig
import Derived.Test.YtikehjindobpkaaGreatGNdMem

set_option linter.unusedVariables false
set_option linter.unusedSimpArgs false
set_option maxRecDepth 100000
set_option maxHeartbeats 6400000
namespace Go.Proofs.YtikehjindobpkaaGreat
open Go.RowKit Num
def shlI (x:Int)(n:Int):Int:=if 0≤n∧n≤10000 then x*2^n.toNat else 0
theorem zil (s:Bool){xs r:List Nat}{n:Int}(h:val r=shlN (val xs) n):ival s r=shlI (ival s xs) n:=by
 unfold ival shlI;rw[h];unfold shlN;by_cases hn:0≤n∧n≤10000
 ·rw[if_pos hn,if_pos hn];cases s <;> simp[Int.neg_mul]
 ·rw[if_neg hn,if_neg hn];cases s <;> rfl
theorem zoi {xs r:List Nat}{n:Int}(hd:Dig xs)(hl:xs.length≤60000)(hc:zaT r)(hv:val r=shlN (val xs) n):r.length≤60313:=by
 obtain⟨K,hK⟩:∃K,K=60000:=⟨_,rfl⟩;obtain⟨M,hM⟩:∃M,M=313:=⟨_,rfl⟩;rw[←hK] at hl;have h3:=Nat.lt_of_lt_of_le (zcq hd) (Nat.pow_le_pow_right (by decide) hl);have h5:r.length≤K+M:=by
  refine zlm hc ?_;rw[hv,Nat.pow_add,zsI M];generalize (4294967296:Nat)^K=P at *;unfold shlN;split
  ·rename_i h;have h4:2^n.toNat≤2^(32*M):=Nat.pow_le_pow_right (by decide) (by omega);exact Nat.lt_of_le_of_lt (Nat.mul_le_mul_left _ h4) (Nat.mul_lt_mul_of_pos_right h3 (Nat.two_pow_pos _))
  ·exact Nat.mul_pos (by omega) (Nat.two_pow_pos _)
 omega
theorem zqS (s:Bool){xs r:List Nat}(h:val r=val xs):ival (!s) r = -ival s xs:=by
 unfold ival;rw[h];cases s <;> simp
theorem zbI (s:Bool)(A:Option Addr)(c:Nat)(xs:List Nat)(w:World)(h:Us w A c xs)(hl:xs.length≤100000) :
  Calls Tryz.prog 51 #[.agg #[.bool s,.slice A xs.length c]] w (RetI (-ival s xs) w):=by
 have hcap:=h.cap;obtain⟨hX,hR,hB⟩:=box2 w (.bool s) (.slice A xs.length c) (.bool false) (.slice none 0 0) 31;have HR:=Hh hR;have HB:=Hh hB;have H1:=Hh (h.below HB.out);clear h hX hR hB;go_enter Tryz.func51,Tryz.ntmps51;go_wp2_with (go_at_call 46;refine(zcs (!s) _ _ xs _ H1.out hl).mono ?_;rintro e w2 ⟨A2,c2,s2,r2,rfl,q2,k2,v2,b2⟩;obtain⟨y1,y2,y3,y4,_⟩:=HR.out.below b2);obtain⟨e1,e2,_,_,_⟩:=(HR.out.below b2).set (.bool s2) (.slice A2 r2.length c2);refine bodyPost_ret (v:=.agg #[.bool s2,.slice A2 r2.length c2]) (by simp[results,Tryz.results51,go_sem,e1,e2]) rfl ?_;exact RetI.box (by omega) (HR.out.below b2) q2 k2 (v2.trans (zqS s rfl)) (HB.out.trans (b2.mono HB.out.size))
theorem zim (s:Bool)(A:Option Addr)(c:Nat)(xs:List Nat)(n:Int)(w:World)(h:Us w A c xs)(hl:xs.length≤100000) :
  Calls Tryz.prog 96 #[.agg #[.bool s,.slice A xs.length c],.int .i64 n] w (RetI (shlI (ival s xs) n) w):=by
 have hcap:=h.cap;obtain⟨hX,hR,hB⟩:=box2 w (.bool s) (.slice A xs.length c) (.bool false) (.slice none 0 0) 31;have HX:=Hh hX.drew;have HR:=Hh hR.drew;have HB:=Hh (Below.drew' hB);have H1:=Hh (h.below HB.out);clear h hX hR hB;go_enter Tryz.func96,Tryz.ntmps96;go_wp2_with fail;go_region_held3 (fun w'=>w'.cell? ⟨w.heap.size,0,none⟩=some (.bool s)∧w'.cell? ⟨w.heap.size,1,none⟩=some (.slice A xs.length c))
  (first|go_keep|fail)
  (first
   | (go_at_call 123;refine(zvW _ _ xs n _ H1.out (by omega)).mono ?_;rintro e w1 ⟨A1,c1,r1,rfl,q1,k1,v1,b1⟩;obtain⟨x1,x2,_,_,_⟩:=HX.out.below b1)
   | (go_at_call 84;refine(zbR s _ _ r1 _ q1 k1).mono ?_;rintro e w2 ⟨A2,c2,s2,r2,rfl,q2,k2,v2,b2⟩;obtain⟨x1,x2,_,_,_⟩:=(HX.out.below b1).below b2;obtain⟨y1,y2,y3,y4,_⟩:=(HR.out.below b1).below b2))
 go_wp2;obtain⟨e1,e2,_,_,_⟩:=(((HR.out.below b1).below b2).set (.bool s2) (.slice A2 r2.length c2));refine bodyPost_ret (v:=.agg #[.bool s2,.slice A2 r2.length c2]) (by simp[results,Tryz.results96,go_sem,e1,e2]) rfl ?_;exact RetI.box (by omega) ((HR.out.below b1).below b2) q2 k2 (v2.trans (zil s v1)) ((HB.out.trans (b1.mono HB.out.size)).trans (b2.mono (HB.out.trans (b1.mono HB.out.size)).size))
theorem zoj (s:Bool)(A:Option Addr)(c:Nat)(xs:List Nat)(n:Int)(w:World)(h:Us w A c xs)(hl:xs.length≤60000) :
  Calls Tryz.prog 74 #[.agg #[.bool s,.slice A xs.length c],.int .i64 n] w (RetI (shlI (ival s xs) n) w):=by
 have hcap:=h.cap;obtain⟨hX,hR,hB⟩:=box2 w (.bool s) (.slice A xs.length c) (.bool false) (.slice none 0 0) 31;have HX:=Hh hX.drew;have HR:=Hh hR.drew;have HB:=Hh (Below.drew' hB);have hd:=h.1;have H1:=Hh (h.below HB.out);clear h hX hR hB;go_enter Tryz.func74,Tryz.ntmps74;go_wp2_with fail;go_region_held3 (fun w'=>w'.cell? ⟨w.heap.size,0,none⟩=some (.bool s)∧w'.cell? ⟨w.heap.size,1,none⟩=some (.slice A xs.length c))
  (first|go_keep|fail)
  (first
   | (go_at_call 105;refine(zsH _ _ xs n _ H1.out (by omega)).mono ?_;rintro e w1 ⟨A1,c1,r1,rfl,q1,k1,v1,b1⟩;obtain⟨x1,x2,_,_,_⟩:=HX.out.below b1)
   | (go_at_call 46;refine(zcs s _ _ r1 _ q1 (by have:=zoi hd hl k1 v1;omega)).mono ?_;rintro e w2 ⟨A2,c2,s2,r2,rfl,q2,k2,v2,b2⟩;obtain⟨x1,x2,_,_,_⟩:=(HX.out.below b1).below b2;obtain⟨y1,y2,y3,y4,_⟩:=(HR.out.below b1).below b2))
 go_wp2;obtain⟨e1,e2,_,_,_⟩:=(((HR.out.below b1).below b2).set (.bool s2) (.slice A2 r2.length c2));refine bodyPost_ret (v:=.agg #[.bool s2,.slice A2 r2.length c2]) (by simp[results,Tryz.results74,go_sem,e1,e2]) rfl ?_;exact RetI.box (by omega) ((HR.out.below b1).below b2) q2 k2 (v2.trans (zil s v1)) ((HB.out.trans (b1.mono HB.out.size)).trans (b2.mono (HB.out.trans (b1.mono HB.out.size)).size))
-- ADD --
theorem zko {xs ys r:List Nat}(hd:Dig xs)(kd:Dig ys)(hl:xs.length≤60000)(kl:ys.length≤60000)(hc:zaT r)(hv:val r=val xs+val ys):r.length≤60001:=by
 obtain⟨K,hK⟩:∃K,K=60000:=⟨_,rfl⟩;rw[←hK] at hl kl;have h1:=Nat.lt_of_lt_of_le (zcq hd) (Nat.pow_le_pow_right (by decide) hl);have h2:=Nat.lt_of_lt_of_le (zcq kd) (Nat.pow_le_pow_right (by decide) kl);have h3:r.length≤K+1:=zlm hc (by rw[hv,Nat.pow_succ];omega);omega
theorem zdQ {xs r:List Nat}{n:Nat}(hd:Dig xs)(hl:xs.length≤60000)(hc:zaT r)(hv:val r=val xs-n):r.length≤60000:=by
 obtain⟨K,hK⟩:∃K,K=60000:=⟨_,rfl⟩;rw[←hK] at hl;have h1:=Nat.lt_of_lt_of_le (zcq hd) (Nat.pow_le_pow_right (by decide) hl);have h3:r.length≤K:=zlm hc (by rw[hv];omega);omega
theorem zok (s:Bool)(A B:Option Addr)(c d:Nat)(xs ys:List Nat)(w:World)(h:Us w A c xs)(k:Us w B d ys)(hl:xs.length≤60000)(kl:ys.length≤60000) :
  Calls Tryz.prog 88 #[.agg #[.bool s,.slice A xs.length c],.agg #[.bool s,.slice B ys.length d]] w (RetI (ival s xs+ival s ys) w):=by
 have hcap:=h.cap;have kcap:=k.cap;obtain⟨hX,hY,hR,hB⟩:=box3 w (.bool s) (.slice A xs.length c) (.bool s) (.slice B ys.length d) (.bool false) (.slice none 0 0) 31;have HX:=Hh hX.drew;have HY:=Hh hY.drew;have HR:=Hh hR.drew;have HB:=Hh (Below.drew' hB);have H1:=Hh (h.below HB.out);have H2:=Hh (k.below HB.out);have hd:=h.1;have kd:=k.1;clear h k hX hY hR hB;have n1:¬ w.heap.size=w.heap.size+1+1:=by omega
 have n2:¬ w.heap.size+1+1=w.heap.size:=by omega
 go_enter Tryz.func88,Tryz.ntmps88;go_wp2_with fail;go_region_held3 (fun w'=>w'.cell? ⟨w.heap.size,0,none⟩=some (.bool s)∧w'.cell? ⟨w.heap.size,1,none⟩=some (.slice A xs.length c)∧w'.cell? ⟨w.heap.size+1,1,none⟩=some (.slice B ys.length d))
  (first|go_keep|fail)
  (first
   | (go_at_call 117;refine(ztr _ _ _ _ xs ys _ H1.out H2.out (by omega) (by omega)).mono ?_;rintro e w1 ⟨A1,c1,r1,rfl,q1,k1,v1,b1⟩;obtain⟨x1,x2,_,_,_⟩:=HX.out.below b1;obtain⟨_,z2,_,_,_⟩:=HY.out.below b1;have l1:=zko hd kd hl kl k1 v1)
   | (go_at_call 84;refine(zbR s _ _ r1 _ q1 k1).mono ?_;rintro e w2 ⟨A2,c2,s2,r2,rfl,q2,k2,v2,b2⟩;obtain⟨x1,x2,_,_,_⟩:=(HX.out.below b1).below b2;obtain⟨_,z2,_,_,_⟩:=(HY.out.below b1).below b2;obtain⟨y1,y2,y3,y4,_⟩:=(HR.out.below b1).below b2))
 go_wp2;obtain⟨e1,e2,_,_,_⟩:=(((HR.out.below b1).below b2).set (.bool s2) (.slice A2 r2.length c2));refine bodyPost_ret (v:=.agg #[.bool s2,.slice A2 r2.length c2]) (by simp[results,Tryz.results88,go_sem,e1,e2]) rfl ?_;refine RetI.box (by omega) ((HR.out.below b1).below b2) q2 k2 (v2.trans ?_) ((HB.out.trans (b1.mono HB.out.size)).trans (b2.mono (HB.out.trans (b1.mono HB.out.size)).size));unfold ival;rw[v1];cases s <;> simp <;> omega
theorem zol (s:Bool)(A B:Option Addr)(c d:Nat)(xs ys:List Nat)(w:World)(h:Us w A c xs)(k:Us w B d ys)(hl:xs.length≤60000)(kl:ys.length≤60000)(hle:val ys≤val xs) :
  Calls Tryz.prog 88 #[.agg #[.bool s,.slice A xs.length c],.agg #[.bool (!s),.slice B ys.length d]] w (RetI (ival s xs+ival (!s) ys) w):=by
 have hcap:=h.cap;have kcap:=k.cap;obtain⟨hX,hY,hR,hB⟩:=box3 w (.bool s) (.slice A xs.length c) (.bool (!s)) (.slice B ys.length d) (.bool false) (.slice none 0 0) 31;have HX:=Hh hX;have HY:=Hh hY;have HR:=Hh hR;have HB:=Hh (hB);have H1:=Hh (h.below HB.out);have H2:=Hh (k.below HB.out);have hd:=h.1;have kd:=k.1;clear h k hX hY hR hB;have n1:¬ w.heap.size=w.heap.size+1+1:=by omega
 have n2:¬ w.heap.size+1+1=w.heap.size:=by omega
 have HL:=Hh hle;clear hle;have hst:(s == !s)=false:=by cases s <;> rfl
 go_enter Tryz.func88,Tryz.ntmps88;go_wp2_with (first
  | (go_at_call_of 118 (Value.slice A xs.length c);go_loud (refine(zkm _ _ _ _ xs ys _ H1.out H2.out (by omega) (by omega)).mono ?_;intro e w1 h;obtain⟨A1,c1,r1,rfl,q1,k1,v1,b1⟩:=h.2 HL.out;clear h;obtain⟨x1,x2,_,_,_⟩:=HX.out.below b1;obtain⟨z1,z2,_,_,_⟩:=HY.out.below b1;have l1:=zdQ hd hl k1 v1;have HV:=Hh v1;clear v1))
  | (go_at_call 84;go_loud (refine(zbR s _ _ r1 _ q1 k1).mono ?_;rintro e w2 ⟨A2,c2,s2,r2,rfl,q2,k2,v2,b2⟩;obtain⟨y1,y2,y3,y4,_⟩:=(HR.out.below b1).below b2;have HV2:=Hh v2;clear v2)))
 obtain⟨e1,e2,_,_,_⟩:=(((HR.out.below b1).below b2).set (.bool s2) (.slice A2 r2.length c2));refine bodyPost_ret (v:=.agg #[.bool s2,.slice A2 r2.length c2]) (by simp[results,Tryz.results88,go_sem,e1,e2]) rfl ?_;refine RetI.box (by omega) ((HR.out.below b1).below b2) q2 k2 (HV2.out.trans ?_) ((HB.out.trans (b1.mono HB.out.size)).trans (b2.mono (HB.out.trans (b1.mono HB.out.size)).size));have hle:=HL.out;unfold ival;rw[HV.out];cases s <;> simp <;> omega
theorem zom (s:Bool)(A B:Option Addr)(c d:Nat)(xs ys:List Nat)(w:World)(h:Us w A c xs)(k:Us w B d ys)(hl:xs.length≤60000)(kl:ys.length≤60000)(hle:val xs<val ys) :
  Calls Tryz.prog 88 #[.agg #[.bool s,.slice A xs.length c],.agg #[.bool (!s),.slice B ys.length d]] w (RetI (ival s xs+ival (!s) ys) w):=by
 have hcap:=h.cap;have kcap:=k.cap;obtain⟨hX,hY,hR,hB⟩:=box3 w (.bool s) (.slice A xs.length c) (.bool (!s)) (.slice B ys.length d) (.bool false) (.slice none 0 0) 31;have HX:=Hh hX;have HY:=Hh hY;have HR:=Hh hR;have HB:=Hh (hB);have H1:=Hh (h.below HB.out);have H2:=Hh (k.below HB.out);have hd:=h.1;have kd:=k.1;clear h k hX hY hR hB;have n1:¬ w.heap.size=w.heap.size+1+1:=by omega
 have n2:¬ w.heap.size+1+1=w.heap.size:=by omega
 have HL:=Hh hle;clear hle;have hst:(s == !s)=false:=by cases s <;> rfl
 have tok0:True:=trivial;go_enter Tryz.func88,Tryz.ntmps88;go_wp2_with (first
  | (go_at_call 118;have _t:=tok0;refine(zkm A B _ _ xs ys _ H1.out H2.out (by omega) (by omega)).mono ?_;intro e w1 h;obtain⟨rfl,b1⟩:=h.1 HL.out;clear h tok0 _t;obtain⟨x1,x2,_,_,_⟩:=HX.out.below b1;obtain⟨z1,z2,_,_,_⟩:=HY.out.below b1)
  | (go_at_call 118;go_loud (refine(zkm B A _ _ ys xs _ (H2.out.below b1) (H1.out.below b1) (by omega) (by omega)).mono ?_;intro e w3 h;obtain⟨A1,c1,r1,rfl,q1,k1,v1,b3⟩:=h.2 (Nat.le_of_lt HL.out);clear h x1 x2 z1 z2;obtain⟨x1,x2,_,_,_⟩:=(HX.out.below b1).below b3;obtain⟨z1,z2,_,_,_⟩:=(HY.out.below b1).below b3;have l1:=zdQ kd kl k1 v1;have HV:=Hh v1;clear v1))
  | (go_at_call 84;go_loud (refine(zbR (!s) _ _ r1 _ q1 k1).mono ?_;rintro e w2 ⟨A2,c2,s2,r2,rfl,q2,k2,v2,b2⟩;obtain⟨y1,y2,y3,y4,_⟩:=((HR.out.below b1).below b3).below b2;have HV2:=Hh v2;clear v2)))
 obtain⟨e1,e2,_,_,_⟩:=((((HR.out.below b1).below b3).below b2).set (.bool s2) (.slice A2 r2.length c2));refine bodyPost_ret (v:=.agg #[.bool s2,.slice A2 r2.length c2]) (by simp[results,Tryz.results88,go_sem,e1,e2]) rfl ?_;have hb1:=HB.out.trans (b1.mono HB.out.size);have hb3:=hb1.trans (b3.mono hb1.size);refine RetI.box (by omega) (((HR.out.below b1).below b3).below b2) q2 k2 (HV2.out.trans ?_) (hb3.trans (b2.mono hb3.size));have hle:=HL.out;unfold ival;rw[HV.out];cases s <;> simp <;> omega
theorem zeE (s t:Bool)(A B:Option Addr)(c d:Nat)(xs ys:List Nat)(w:World)(h:Us w A c xs)(k:Us w B d ys)(hl:xs.length≤60000)(kl:ys.length≤60000) :
  Calls Tryz.prog 88 #[.agg #[.bool s,.slice A xs.length c],.agg #[.bool t,.slice B ys.length d]] w (RetI (ival s xs+ival t ys) w):=by
 by_cases hst:s=t
 ·subst hst;exact zok s A B c d xs ys w h k hl kl
 ·obtain rfl:t = !s:=by cases s <;> cases t <;> simp_all
  rcases Nat.lt_or_ge (val xs) (val ys) with hlt|hge
  ·exact zom s A B c d xs ys w h k hl kl hlt
  ·exact zol s A B c d xs ys w h k hl kl hge
theorem zmI (s:Bool)(A B:Option Addr)(c d:Nat)(xs ys:List Nat)(w:World)(h:Us w A c xs)(k:Us w B d ys)(hl:xs.length≤60000)(kl:ys.length≤60000) :
  Calls Tryz.prog 21 #[.agg #[.bool s,.slice A xs.length c],.agg #[.bool s,.slice B ys.length d]] w (RetI (ival s xs+ival s ys) w):=by
 have hcap:=h.cap;have kcap:=k.cap;obtain⟨hX,hY,hR,hB⟩:=box3 w (.bool s) (.slice A xs.length c) (.bool s) (.slice B ys.length d) (.bool false) (.slice none 0 0) 31;have HX:=Hh hX.drew;have HY:=Hh hY.drew;have HR:=Hh hR.drew;have HB:=Hh (Below.drew' hB);have H1:=Hh (h.below HB.out);have H2:=Hh (k.below HB.out);have hd:=h.1;have kd:=k.1;clear h k hX hY hR hB;have n1:¬ w.heap.size=w.heap.size+1+1:=by omega
 have n2:¬ w.heap.size+1+1=w.heap.size:=by omega
 go_enter Tryz.func21,Tryz.ntmps21;go_wp2_with fail;go_region_held3 (fun w'=>w'.cell? ⟨w.heap.size,0,none⟩=some (.bool s)∧w'.cell? ⟨w.heap.size,1,none⟩=some (.slice A xs.length c)∧w'.cell? ⟨w.heap.size+1,1,none⟩=some (.slice B ys.length d))
  (first|go_keep|fail)
  (first
   | (go_at_call 47;refine(zlv _ _ _ _ xs ys _ H1.out H2.out (by omega) (by omega)).mono ?_;rintro e w1 ⟨A1,c1,r1,rfl,q1,k1,v1,b1⟩;obtain⟨x1,x2,_,_,_⟩:=HX.out.below b1;obtain⟨_,z2,_,_,_⟩:=HY.out.below b1;have l1:=zko hd kd hl kl k1 v1)
   | (go_at_call 46;refine(zcs s _ _ r1 _ q1 (by omega)).mono ?_;rintro e w2 ⟨A2,c2,s2,r2,rfl,q2,k2,v2,b2⟩;obtain⟨x1,x2,_,_,_⟩:=(HX.out.below b1).below b2;obtain⟨_,z2,_,_,_⟩:=(HY.out.below b1).below b2;obtain⟨y1,y2,y3,y4,_⟩:=(HR.out.below b1).below b2))
 go_wp2;obtain⟨e1,e2,_,_,_⟩:=(((HR.out.below b1).below b2).set (.bool s2) (.slice A2 r2.length c2));refine bodyPost_ret (v:=.agg #[.bool s2,.slice A2 r2.length c2]) (by simp[results,Tryz.results21,go_sem,e1,e2]) rfl ?_;refine RetI.box (by omega) ((HR.out.below b1).below b2) q2 k2 (v2.trans ?_) ((HB.out.trans (b1.mono HB.out.size)).trans (b2.mono (HB.out.trans (b1.mono HB.out.size)).size));unfold ival;rw[v1];cases s <;> simp <;> omega
theorem zmJ (s:Bool)(A B:Option Addr)(c d:Nat)(xs ys:List Nat)(w:World)(h:Us w A c xs)(k:Us w B d ys)(hl:xs.length≤60000)(kl:ys.length≤60000)(hle:val ys≤val xs) :
  Calls Tryz.prog 21 #[.agg #[.bool s,.slice A xs.length c],.agg #[.bool (!s),.slice B ys.length d]] w (RetI (ival s xs+ival (!s) ys) w):=by
 have hcap:=h.cap;have kcap:=k.cap;obtain⟨hX,hY,hR,hB⟩:=box3 w (.bool s) (.slice A xs.length c) (.bool (!s)) (.slice B ys.length d) (.bool false) (.slice none 0 0) 31;have HX:=Hh hX;have HY:=Hh hY;have HR:=Hh hR;have HB:=Hh (hB);have H1:=Hh (h.below HB.out);have H2:=Hh (k.below HB.out);have hd:=h.1;have kd:=k.1;clear h k hX hY hR hB;have n1:¬ w.heap.size=w.heap.size+1+1:=by omega
 have n2:¬ w.heap.size+1+1=w.heap.size:=by omega
 have HL:=Hh hle;clear hle;have hst:(s == !s)=false:=by cases s <;> rfl
 go_enter Tryz.func21,Tryz.ntmps21;go_wp2_with (first
  | (go_at_call_of 48 (Value.slice A xs.length c);go_loud (refine(zdP _ _ _ _ xs ys _ H1.out H2.out (by omega) (by omega)).mono ?_;intro e w1 h;obtain⟨A1,c1,r1,rfl,q1,k1,v1,b1⟩:=h.2 HL.out;clear h;obtain⟨x1,x2,_,_,_⟩:=HX.out.below b1;obtain⟨z1,z2,_,_,_⟩:=HY.out.below b1;have l1:=zdQ hd hl k1 v1;have HV:=Hh v1;clear v1))
  | (go_at_call 46;go_loud (refine(zcs s _ _ r1 _ q1 (by omega)).mono ?_;rintro e w2 ⟨A2,c2,s2,r2,rfl,q2,k2,v2,b2⟩;obtain⟨y1,y2,y3,y4,_⟩:=(HR.out.below b1).below b2;have HV2:=Hh v2;clear v2)))
 obtain⟨e1,e2,_,_,_⟩:=(((HR.out.below b1).below b2).set (.bool s2) (.slice A2 r2.length c2));refine bodyPost_ret (v:=.agg #[.bool s2,.slice A2 r2.length c2]) (by simp[results,Tryz.results21,go_sem,e1,e2]) rfl ?_;refine RetI.box (by omega) ((HR.out.below b1).below b2) q2 k2 (HV2.out.trans ?_) ((HB.out.trans (b1.mono HB.out.size)).trans (b2.mono (HB.out.trans (b1.mono HB.out.size)).size));have hle:=HL.out;unfold ival;rw[HV.out];cases s <;> simp <;> omega
theorem zmK (s:Bool)(A B:Option Addr)(c d:Nat)(xs ys:List Nat)(w:World)(h:Us w A c xs)(k:Us w B d ys)(hl:xs.length≤60000)(kl:ys.length≤60000)(hle:val xs<val ys) :
  Calls Tryz.prog 21 #[.agg #[.bool s,.slice A xs.length c],.agg #[.bool (!s),.slice B ys.length d]] w (RetI (ival s xs+ival (!s) ys) w):=by
 have hcap:=h.cap;have kcap:=k.cap;obtain⟨hX,hY,hR,hB⟩:=box3 w (.bool s) (.slice A xs.length c) (.bool (!s)) (.slice B ys.length d) (.bool false) (.slice none 0 0) 31;have HX:=Hh hX;have HY:=Hh hY;have HR:=Hh hR;have HB:=Hh (hB);have H1:=Hh (h.below HB.out);have H2:=Hh (k.below HB.out);have hd:=h.1;have kd:=k.1;clear h k hX hY hR hB;have n1:¬ w.heap.size=w.heap.size+1+1:=by omega
 have n2:¬ w.heap.size+1+1=w.heap.size:=by omega
 have HL:=Hh hle;clear hle;have hst:(s == !s)=false:=by cases s <;> rfl
 have tok0:True:=trivial;go_enter Tryz.func21,Tryz.ntmps21;go_wp2_with (first
  | (go_at_call 48;have _t:=tok0;refine(zdP A B _ _ xs ys _ H1.out H2.out (by omega) (by omega)).mono ?_;intro e w1 h;obtain⟨rfl,b1⟩:=h.1 HL.out;clear h tok0 _t;obtain⟨x1,x2,_,_,_⟩:=HX.out.below b1;obtain⟨z1,z2,_,_,_⟩:=HY.out.below b1)
  | (go_at_call 48;go_loud (refine(zdP B A _ _ ys xs _ (H2.out.below b1) (H1.out.below b1) (by omega) (by omega)).mono ?_;intro e w3 h;obtain⟨A1,c1,r1,rfl,q1,k1,v1,b3⟩:=h.2 (Nat.le_of_lt HL.out);clear h x1 x2 z1 z2;obtain⟨x1,x2,_,_,_⟩:=(HX.out.below b1).below b3;obtain⟨z1,z2,_,_,_⟩:=(HY.out.below b1).below b3;have l1:=zdQ kd kl k1 v1;have HV:=Hh v1;clear v1))
  | (go_at_call 46;go_loud (refine(zcs (!s) _ _ r1 _ q1 (by omega)).mono ?_;rintro e w2 ⟨A2,c2,s2,r2,rfl,q2,k2,v2,b2⟩;obtain⟨y1,y2,y3,y4,_⟩:=((HR.out.below b1).below b3).below b2;have HV2:=Hh v2;clear v2)))
 obtain⟨e1,e2,_,_,_⟩:=((((HR.out.below b1).below b3).below b2).set (.bool s2) (.slice A2 r2.length c2));refine bodyPost_ret (v:=.agg #[.bool s2,.slice A2 r2.length c2]) (by simp[results,Tryz.results21,go_sem,e1,e2]) rfl ?_;have hb1:=HB.out.trans (b1.mono HB.out.size);have hb3:=hb1.trans (b3.mono hb1.size);refine RetI.box (by omega) (((HR.out.below b1).below b3).below b2) q2 k2 (HV2.out.trans ?_) (hb3.trans (b2.mono hb3.size));have hle:=HL.out;unfold ival;rw[HV.out];cases s <;> simp <;> omega
theorem zav (s t:Bool)(A B:Option Addr)(c d:Nat)(xs ys:List Nat)(w:World)(h:Us w A c xs)(k:Us w B d ys)(hl:xs.length≤60000)(kl:ys.length≤60000) :
  Calls Tryz.prog 21 #[.agg #[.bool s,.slice A xs.length c],.agg #[.bool t,.slice B ys.length d]] w (RetI (ival s xs+ival t ys) w):=by
 by_cases hst:s=t
 ·subst hst;exact zmI s A B c d xs ys w h k hl kl
 ·obtain rfl:t = !s:=by cases s <;> cases t <;> simp_all
  rcases Nat.lt_or_ge (val xs) (val ys) with hlt|hge
  ·exact zmK s A B c d xs ys w h k hl kl hlt
  ·exact zmJ s A B c d xs ys w h k hl kl hge
theorem zqT (W:World)(u v:Int)(U V:Nat)(t:TypeId)(hu:u=(U:Int))(hv:v=(V:Int))(lu:U<4294967296)(lv:V<4294967296) :
  Us (W.alloc (.cells #[.int .u32 u,.int .u32 v] t)) (some ⟨W.heap.size,0,none⟩) 2 [U,V]:=by
 subst hu hv;exact ztz W U V t lu lv
theorem zfQ (w:World)(o:Obj)(u v:Int)(U V:Nat)(t:TypeId)(hu:u=(U:Int))(hv:v=(V:Int))(lu:U<4294967296)(lv:V<4294967296) :
  Us ((w.alloc o).alloc (.cells #[.int .u32 u,.int .u32 v] t)) (some ⟨w.heap.size+1,0,none⟩) 2 [U,V]:=by
 have h:=zqT (w.alloc o) u v U V t hu hv lu lv;have e:(w.alloc o).heap.size=w.heap.size+1:=by simp
 rw[e] at h;exact h
theorem zfR (n:Int)(h0 : -9223372036854775808≤n)(h1:n<0):IntKind.u64.wrap (-IntKind.u64.wrap n) = -n:=by
 simp[IntKind.wrap,IntKind.bits,IntKind.signed];omega
theorem zkp (n:Int)(m:Nat)(h0 : -9223372036854775808≤n)(h1:n<0)(hm:m=n.natAbs):IntKind.u64.wrap (-IntKind.u64.wrap n)%4294967296=((m%4294967296:Nat):Int):=by
 rw[zfR n h0 h1];omega
theorem zkq (n:Int)(m:Nat)(h0 : -9223372036854775808≤n)(h1:n<0)(hm:m=n.natAbs):IntKind.u64.wrap (-IntKind.u64.wrap n) / 4294967296%4294967296=((m / 4294967296:Nat):Int):=by
 rw[zfR n h0 h1];omega
theorem zji (n:Int)(m:Nat)(h0 : -9223372036854775808≤n)(h1:n<0)(hm:m=n.natAbs):(IntKind.u64.wrap (-IntKind.u64.wrap n)).tmod 4294967296%4294967296=((m%4294967296:Nat):Int):=by
 rw[zfR n h0 h1,Int.tmod_eq_emod_of_nonneg (by omega)];omega
theorem zjj (n:Int)(m:Nat)(h0 : -9223372036854775808≤n)(h1:n<0)(hm:m=n.natAbs):IntKind.u64.wrap ((IntKind.u64.wrap (-IntKind.u64.wrap n)).tdiv 4294967296)%4294967296=((m / 4294967296:Nat):Int):=by
 rw[zfR n h0 h1,Int.tdiv_eq_ediv_of_nonneg (by omega),IntWalk.u64_in _ (by omega)];omega
theorem ztA (m:Nat):val [m%4294967296,m / 4294967296]=m:=by
 simp only[val];omega
theorem zfS {n:Int}{m:Nat}{r:List Nat}(hm:m=n.natAbs)(h:val r=val [m%4294967296,m / 4294967296]):ival (decide (n<0)) r=n:=by
 rw[ztA] at h;unfold ival;rw[h];by_cases hn:n<0 <;> simp[hn] <;> omega
theorem zgz (n:Int)(w:World)(h0 : -9223372036854775808≤n)(h1:n≤9223372036854775807) :
  Calls Tryz.prog 54 #[.int .i64 n] w (RetI n w):=by
 obtain⟨m,hm⟩:∃m,m=n.natAbs:=⟨_,rfl⟩;have lu:m%4294967296<4294967296:=Nat.mod_lt _ (by decide);have lv:m / 4294967296<4294967296:=by omega
 obtain⟨hR,hB⟩:=box1 w (.bool false) (.slice none 0 0) 31;have HR:=Hh hR;have HB:=Hh hB;have HM:=Hh hm;clear hR hB;by_cases hn:0≤n
 ·have HL:=Hh (show n%4294967296=((m%4294967296:Nat):Int) by omega);have HH:=Hh (show n / 4294967296=((m / 4294967296:Nat):Int) by omega);clear hm lu lv;have HU:=Hh (zfQ w (.cells #[.bool false,.slice none 0 0] 31) _ _ _ _ 80 HL.out HH.out (Nat.mod_lt _ (by decide)) (by have:=HM.out;omega));clear HL HH;go_enter Tryz.func54,Tryz.ntmps54;go_wp2_with (first
   | (go_at_call 85;go_loud (refine(zii _ _ [m%4294967296,m / 4294967296] _ HU.out (by simp)).mono ?_;rintro e w1 ⟨A1,c1,r1,rfl,q1,k1,v1,b1⟩;obtain⟨x1,x2,x3,x4,_⟩:=(HR.out.alloc _).below b1;have HV:=Hh v1;clear v1))
   | (go_at_call 84;refine(zbR _ _ _ r1 _ q1 k1).mono ?_;rintro e w2 ⟨A2,c2,s2,r2,rfl,q2,k2,v2,b2⟩;obtain⟨y1,y2,y3,y4,_⟩:=((HR.out.alloc _).below b1).below b2;have HV2:=Hh v2;clear v2))
  obtain⟨e1,e2,_,_,_⟩:=((((HR.out.alloc _).below b1).below b2).set (.bool s2) (.slice A2 r2.length c2));refine bodyPost_ret (v:=.agg #[.bool s2,.slice A2 r2.length c2]) (by simp[results,Tryz.results54,go_sem,e1,e2]) rfl ?_;have hb1:=(HB.out.alloc (by simp) _).trans (b1.mono (by simp <;> omega));exact RetI.box (by omega) (((HR.out.alloc _).below b1).below b2) q2 k2 (HV2.out.trans (zfS HM.out HV.out)) (hb1.trans (b2.mono hb1.size))
 ·have HL:=Hh (zkp n m h0 (by omega) hm);have HH:=Hh (zkq n m h0 (by omega) hm);clear hm lu lv;have HU:=Hh (zfQ w (.cells #[.bool false,.slice none 0 0] 31) _ _ _ _ 80 HL.out HH.out (Nat.mod_lt _ (by decide)) (by have:=HM.out;omega));clear HL HH;go_enter Tryz.func54,Tryz.ntmps54;go_wp2_with (first
   | (go_at_call 85;go_loud (refine(zii _ _ [m%4294967296,m / 4294967296] _ HU.out (by simp)).mono ?_;rintro e w1 ⟨A1,c1,r1,rfl,q1,k1,v1,b1⟩;obtain⟨x1,x2,x3,x4,_⟩:=(HR.out.alloc _).below b1;have HV:=Hh v1;clear v1))
   | (go_at_call 84;refine(zbR true _ _ r1 _ q1 k1).mono ?_;rintro e w2 ⟨A2,c2,s2,r2,rfl,q2,k2,v2,b2⟩;obtain⟨y1,y2,y3,y4,_⟩:=((HR.out.alloc _).below b1).below b2;have HV2:=Hh v2;clear v2))
  obtain⟨e1,e2,_,_,_⟩:=((((HR.out.alloc _).below b1).below b2).set (.bool s2) (.slice A2 r2.length c2));refine bodyPost_ret (v:=.agg #[.bool s2,.slice A2 r2.length c2]) (by simp[results,Tryz.results54,go_sem,e1,e2]) rfl ?_;have hb1:=(HB.out.alloc (by simp) _).trans (b1.mono (by simp <;> omega));have hi:=zfS HM.out HV.out;rw[decide_eq_true (by omega)] at hi;exact RetI.box (by omega) (((HR.out.alloc _).below b1).below b2) q2 k2 (HV2.out.trans hi) (hb1.trans (b2.mono hb1.size))
theorem zbn (n:Int)(w:World)(h0 : -9223372036854775808≤n)(h1:n≤9223372036854775807) :
  Calls Tryz.prog 22 #[.int .i64 n] w (RetI n w):=by
 obtain⟨m,hm⟩:∃m,m=n.natAbs:=⟨_,rfl⟩;obtain⟨hR,hB⟩:=box1 w (.bool false) (.slice none 0 0) 31;have HR:=Hh hR;have HB:=Hh hB;have HM:=Hh hm;clear hR hB;by_cases hn:0≤n
 ·have HL:=Hh (show n%4294967296=((m%4294967296:Nat):Int) by omega);have HH:=Hh (show n / 4294967296=((m / 4294967296:Nat):Int) by omega);clear hm;have HU:=Hh (zfQ w (.cells #[.bool false,.slice none 0 0] 31) _ _ _ _ 80 HL.out HH.out (Nat.mod_lt _ (by decide)) (by have:=HM.out;omega));clear HL HH;go_enter Tryz.func22,Tryz.ntmps22;go_wp2_with (go_at_call 46;refine(zcs _ _ _ [m%4294967296,m / 4294967296] _ HU.out (by simp)).mono ?_;rintro e w2 ⟨A2,c2,s2,r2,rfl,q2,k2,v2,b2⟩;obtain⟨y1,y2,y3,y4,_⟩:=(HR.out.alloc _).below b2;have HV2:=Hh v2;clear v2);obtain⟨e1,e2,_,_,_⟩:=(((HR.out.alloc _).below b2).set (.bool s2) (.slice A2 r2.length c2));refine bodyPost_ret (v:=.agg #[.bool s2,.slice A2 r2.length c2]) (by simp[results,Tryz.results22,go_sem,e1,e2]) rfl ?_;exact RetI.box (by omega) ((HR.out.alloc _).below b2) q2 k2 (HV2.out.trans (zfS HM.out rfl)) ((HB.out.alloc (by simp) _).trans (b2.mono (by simp <;> omega)))
 ·have HL:=Hh (zji n m h0 (by omega) hm);have HH:=Hh (zjj n m h0 (by omega) hm);clear hm;have HU:=Hh (zfQ w (.cells #[.bool false,.slice none 0 0] 31) _ _ _ _ 80 HL.out HH.out (Nat.mod_lt _ (by decide)) (by have:=HM.out;omega));clear HL HH;go_enter Tryz.func22,Tryz.ntmps22;go_wp2_with (go_at_call 46;refine(zcs true _ _ [m%4294967296,m / 4294967296] _ HU.out (by simp)).mono ?_;rintro e w2 ⟨A2,c2,s2,r2,rfl,q2,k2,v2,b2⟩;obtain⟨y1,y2,y3,y4,_⟩:=(HR.out.alloc _).below b2;have HV2:=Hh v2;clear v2);obtain⟨e1,e2,_,_,_⟩:=(((HR.out.alloc _).below b2).set (.bool s2) (.slice A2 r2.length c2));refine bodyPost_ret (v:=.agg #[.bool s2,.slice A2 r2.length c2]) (by simp[results,Tryz.results22,go_sem,e1,e2]) rfl ?_;have hi:=zfS (n:=n) HM.out rfl;rw[decide_eq_true (by omega)] at hi;exact RetI.box (by omega) ((HR.out.alloc _).below b2) q2 k2 (HV2.out.trans hi) ((HB.out.alloc (by simp) _).trans (b2.mono (by simp <;> omega)))
theorem zeF (s:Bool)(r:List Nat):val r=(ival s r).natAbs:=by
 unfold ival;cases s <;> simp
theorem zbo {s:Bool}{r:List Nat}{n:Int}(hc:zaq s r)(hv:ival s r=n)(k:Nat)(hn:n.natAbs<4294967296^k):r.length≤k :=
 zlm hc.1 (by rw[zeF s r,hv];exact hn)
theorem zbJ {s:Bool}{xs:List Nat}(hd:Dig xs){k:Nat}(hl:xs.length≤k):(ival s xs).natAbs<4294967296^k:=by
 rw[←zeF];exact Nat.lt_of_lt_of_le (zcq hd) (Nat.pow_le_pow_right (by decide) hl)
theorem ztB {a b:Int}{k:Nat}(ha:a.natAbs<4294967296^k)(hb:b.natAbs<4294967296^k):(a+b).natAbs<4294967296^(k+1):=by
 rw[Nat.pow_succ];omega
theorem zon {s t:Bool}{r ys:List Nat}(kd:Dig ys)(hc:zaq s r)(hv:ival s r = -ival t ys):r.length≤ys.length :=
 zbo hc hv _ (by rw[Int.natAbs_neg,←zeF];exact zcq kd)
theorem zcM {k:IntKind}{a b:Int}(h:a=b):Ending.returned (.int k a)=.returned (.int k b):=by rw[h]
def ordI (a b:Int):Int:=if a<b then -1 else if a=b then 0 else 1
theorem zlx (s t:Bool)(A B:Option Addr)(c d:Nat)(xs ys:List Nat)(w:World)(h:Us w A c xs)(k:Us w B d ys)(hl:xs.length≤60000)(kl:ys.length≤60000) :
  Calls Tryz.prog 89 #[.agg #[.bool s,.slice A xs.length c],.agg #[.bool t,.slice B ys.length d]] w (RetI (ival s xs-ival t ys) w):=by
 have hcap:=h.cap;have kcap:=k.cap;obtain⟨hX,hY,hR,hB⟩:=box3 w (.bool s) (.slice A xs.length c) (.bool t) (.slice B ys.length d) (.bool false) (.slice none 0 0) 31;have HX:=Hh hX.drew;have HY:=Hh hY.drew;have HR:=Hh hR.drew;have HB:=Hh (Below.drew' hB);have H1:=Hh (h.below HB.out);have H2:=Hh (k.below HB.out);have kd:=k.1;clear h k hX hY hR hB;have n1:¬ w.heap.size=w.heap.size+1+1:=by omega
 have n2:¬ w.heap.size+1+1=w.heap.size:=by omega
 go_enter Tryz.func89,Tryz.ntmps89;go_wp2_with fail;go_region_held3 (fun w'=>w'.cell? ⟨w.heap.size,0,none⟩=some (.bool s)∧w'.cell? ⟨w.heap.size,1,none⟩=some (.slice A xs.length c)∧w'.cell? ⟨w.heap.size+1,0,none⟩=some (.bool t)∧w'.cell? ⟨w.heap.size+1,1,none⟩=some (.slice B ys.length d))
  (first|go_keep|fail)
  (first
   | (go_at_call 119;refine(zjh t _ _ ys _ H2.out (by omega)).mono ?_;rintro e w1 ⟨A1,c1,s1,r1,rfl,q1,k1,v1,b1⟩;obtain⟨x1,x2,_,_,_⟩:=HX.out.below b1;obtain⟨z1,z2,_,_,_⟩:=HY.out.below b1;have l1:r1.length≤60000:=Nat.le_trans (zon kd k1 v1) kl)
   | (go_at_call 88;refine(zeE s s1 _ _ _ _ xs r1 _ (H1.out.below b1) q1 hl l1).mono ?_;rintro e w2 ⟨A2,c2,s2,r2,rfl,q2,k2,v2,b2⟩;obtain⟨x1,x2,_,_,_⟩:=(HX.out.below b1).below b2;obtain⟨z1,z2,_,_,_⟩:=(HY.out.below b1).below b2;obtain⟨y1,y2,y3,y4,_⟩:=(HR.out.below b1).below b2))
 go_wp2;obtain⟨e1,e2,_,_,_⟩:=(((HR.out.below b1).below b2).set (.bool s2) (.slice A2 r2.length c2));refine bodyPost_ret (v:=.agg #[.bool s2,.slice A2 r2.length c2]) (by simp[results,Tryz.results89,go_sem,e1,e2]) rfl ?_;exact RetI.box (by omega) ((HR.out.below b1).below b2) q2 k2 (by rw[v2,v1,Int.sub_eq_add_neg]) ((HB.out.trans (b1.mono HB.out.size)).trans (b2.mono (HB.out.trans (b1.mono HB.out.size)).size))
theorem zct (s t:Bool)(A B:Option Addr)(c d:Nat)(xs ys:List Nat)(w:World)(h:Us w A c xs)(k:Us w B d ys)(hl:xs.length≤60000)(kl:ys.length≤60000) :
  Calls Tryz.prog 64 #[.agg #[.bool s,.slice A xs.length c],.agg #[.bool t,.slice B ys.length d]] w (RetI (ival s xs-ival t ys) w):=by
 have hcap:=h.cap;have kcap:=k.cap;obtain⟨hX,hY,hR,hB⟩:=box3 w (.bool s) (.slice A xs.length c) (.bool t) (.slice B ys.length d) (.bool false) (.slice none 0 0) 31;have HX:=Hh hX.drew;have HY:=Hh hY.drew;have HR:=Hh hR.drew;have HB:=Hh (Below.drew' hB);have H1:=Hh (h.below HB.out);have H2:=Hh (k.below HB.out);have kd:=k.1;clear h k hX hY hR hB;have n1:¬ w.heap.size=w.heap.size+1+1:=by omega
 have n2:¬ w.heap.size+1+1=w.heap.size:=by omega
 go_enter Tryz.func64,Tryz.ntmps64;go_wp2_with fail;go_region_held3 (fun w'=>w'.cell? ⟨w.heap.size,0,none⟩=some (.bool s)∧w'.cell? ⟨w.heap.size,1,none⟩=some (.slice A xs.length c)∧w'.cell? ⟨w.heap.size+1,0,none⟩=some (.bool t)∧w'.cell? ⟨w.heap.size+1,1,none⟩=some (.slice B ys.length d))
  (first|go_keep|fail)
  (first
   | (go_at_call 51;refine(zbI t _ _ ys _ H2.out (by omega)).mono ?_;rintro e w1 ⟨A1,c1,s1,r1,rfl,q1,k1,v1,b1⟩;obtain⟨x1,x2,_,_,_⟩:=HX.out.below b1;obtain⟨z1,z2,_,_,_⟩:=HY.out.below b1;have l1:r1.length≤60000:=Nat.le_trans (zon kd k1 v1) kl)
   | (go_at_call 21;refine(zav s s1 _ _ _ _ xs r1 _ (H1.out.below b1) q1 hl l1).mono ?_;rintro e w2 ⟨A2,c2,s2,r2,rfl,q2,k2,v2,b2⟩;obtain⟨x1,x2,_,_,_⟩:=(HX.out.below b1).below b2;obtain⟨z1,z2,_,_,_⟩:=(HY.out.below b1).below b2;obtain⟨y1,y2,y3,y4,_⟩:=(HR.out.below b1).below b2))
 go_wp2;obtain⟨e1,e2,_,_,_⟩:=(((HR.out.below b1).below b2).set (.bool s2) (.slice A2 r2.length c2));refine bodyPost_ret (v:=.agg #[.bool s2,.slice A2 r2.length c2]) (by simp[results,Tryz.results64,go_sem,e1,e2]) rfl ?_;exact RetI.box (by omega) ((HR.out.below b1).below b2) q2 k2 (by rw[v2,v1,Int.sub_eq_add_neg]) ((HB.out.trans (b1.mono HB.out.size)).trans (b2.mono (HB.out.trans (b1.mono HB.out.size)).size))
theorem zin (n:Int)(w:World) :
  Calls Tryz.prog 97 #[.int .i64 n] w (RetI (shlI 1 n) w):=by
 obtain⟨hR,hB⟩:=box1 w (.bool false) (.slice none 0 0) 31;have HR:=Hh hR;have HB:=Hh hB;clear hR hB;go_enter Tryz.func97,Tryz.ntmps97;go_wp2_with (first
  | (go_at_call 54;refine(zgz 1 _ (by decide) (by decide)).mono ?_;rintro e w1 ⟨A1,c1,s1,r1,rfl,q1,k1,v1,b1⟩;have l1:r1.length≤1:=zbo k1 v1 1 (by decide);have HV:=Hh v1;clear v1)
  | (go_at_call 96;refine(zim s1 _ _ r1 n _ q1 (by omega)).mono ?_;rintro e w2 ⟨A2,c2,s2,r2,rfl,q2,k2,v2,b2⟩;obtain⟨y1,y2,y3,y4,_⟩:=(HR.out.below b1).below b2;have HV2:=Hh v2;clear v2))
 obtain⟨e1,e2,_,_,_⟩:=(((HR.out.below b1).below b2).set (.bool s2) (.slice A2 r2.length c2));refine bodyPost_ret (v:=.agg #[.bool s2,.slice A2 r2.length c2]) (by simp[results,Tryz.results97,go_sem,e1,e2]) rfl ?_;exact RetI.box (by omega) ((HR.out.below b1).below b2) q2 k2 (by rw[HV2.out,HV.out]) ((HB.out.trans (b1.mono HB.out.size)).trans (b2.mono (HB.out.trans (b1.mono HB.out.size)).size))
theorem zaS (n:Int)(w:World) :
  Calls Tryz.prog 44 #[.int .i64 n] w (RetI (shlI 1 n) w):=by
 obtain⟨hR,hB⟩:=box1 w (.bool false) (.slice none 0 0) 31;have HR:=Hh hR;have HB:=Hh hB;clear hR hB;go_enter Tryz.func44,Tryz.ntmps44;go_wp2_with (first
  | (go_at_call 22;refine(zbn 1 _ (by decide) (by decide)).mono ?_;rintro e w1 ⟨A1,c1,s1,r1,rfl,q1,k1,v1,b1⟩;have l1:r1.length≤1:=zbo k1 v1 1 (by decide);have HV:=Hh v1;clear v1)
  | (go_at_call 74;refine(zoj s1 _ _ r1 n _ q1 (by omega)).mono ?_;rintro e w2 ⟨A2,c2,s2,r2,rfl,q2,k2,v2,b2⟩;obtain⟨y1,y2,y3,y4,_⟩:=(HR.out.below b1).below b2;have HV2:=Hh v2;clear v2))
 obtain⟨e1,e2,_,_,_⟩:=(((HR.out.below b1).below b2).set (.bool s2) (.slice A2 r2.length c2));refine bodyPost_ret (v:=.agg #[.bool s2,.slice A2 r2.length c2]) (by simp[results,Tryz.results44,go_sem,e1,e2]) rfl ?_;exact RetI.box (by omega) ((HR.out.below b1).below b2) q2 k2 (by rw[HV2.out,HV.out]) ((HB.out.trans (b1.mono HB.out.size)).trans (b2.mono (HB.out.trans (b1.mono HB.out.size)).size))
theorem zoo {s:Bool}{r:List Nat}{a b:Int}(hc:zaq s r)(hv:ival s r=a-b) :
  (r.length=0→ordI a b=0)∧(r.length≠0→s=true→ordI a b = -1)∧(r.length≠0→s=false→ordI a b=1):=by
 refine⟨fun h=>?_,fun h hs=>?_,fun h hs=>?_⟩
 ·obtain rfl:=List.eq_nil_of_length_eq_zero h;rw[zfP] at hv;unfold ordI;rw[if_neg (by omega),if_pos (by omega)]
 ·subst hs;have:val r≠0:=fun e=>hc.2 rfl (zaQ hc.1 e);unfold ival at hv;simp only[if_true] at hv;unfold ordI;rw[if_pos (by omega)]
 ·subst hs;have:val r≠0:=fun e=>h (by rw[zaQ hc.1 e];rfl);unfold ival at hv;simp only[Bool.false_eq_true,if_false] at hv;unfold ordI;rw[if_neg (by omega),if_neg (by omega)]
theorem zsJ {xs ys:List Nat}:cmpN (val ys) (val xs)=ordI (ival true xs) (ival true ys):=by
 unfold cmpN ordI ival;simp only[if_true];split <;> split <;> (try split) <;> (try split) <;> omega
theorem zsK {xs ys:List Nat}:cmpN (val xs) (val ys)=ordI (ival false xs) (ival false ys):=by
 unfold cmpN ordI ival;simp only[Bool.false_eq_true,if_false];split <;> split <;> (try split) <;> (try split) <;> omega
theorem zeG (s t:Bool)(A B:Option Addr)(c d:Nat)(xs ys:List Nat)(w:World)(h:Us w A c xs)(k:Us w B d ys)(hl:xs.length≤60000)(kl:ys.length≤60000)(hc:zaq s xs)(kc:zaq t ys) :
  Calls Tryz.prog 55 #[.agg #[.bool s,.slice A xs.length c],.agg #[.bool t,.slice B ys.length d]] w fun e w'=>e=.returned (.int .i64 (ordI (ival s xs) (ival t ys)))∧Below w.heap.size w w':=by
 have hcap:=h.cap;have kcap:=k.cap;obtain⟨hX,hY,hB⟩:=box2 w (.bool s) (.slice A xs.length c) (.bool t) (.slice B ys.length d) 31;have HB:=Hh hB;have H1:=Hh (h.below HB.out);have H2:=Hh (k.below HB.out);obtain⟨z,hz⟩:∃z,z=ordI (ival s xs) (ival t ys):=⟨_,rfl⟩;rw[←hz];have HZ:=Hh hz;clear h k hX hY hB hz;cases s <;> cases t
 ·go_enter Tryz.func55,Tryz.ntmps55;go_wp2_with (go_at_call 86;refine(zkh _ _ _ _ xs ys _ H1.out H2.out (by omega) (by omega)).mono ?_;rintro e w1 ⟨rfl,b⟩;rw[zsK,←HZ.out]);go_ret;exact⟨rfl,HB.out.trans (b.mono HB.out.size)⟩
 ·go_enter Tryz.func55,Tryz.ntmps55;go_wp2_with fail;go_ret;refine⟨zcM ?_,HB.out⟩;rw[HZ.out];have:=kc.2 rfl;have h2:val ys≠0:=fun e=>this (zaQ kc.1 e);unfold ordI ival;simp only[if_true,Bool.false_eq_true,if_false];rw[if_neg (by omega),if_neg (by omega)]
 ·go_enter Tryz.func55,Tryz.ntmps55;go_wp2_with fail;go_ret;refine⟨zcM ?_,HB.out⟩;rw[HZ.out];have:=hc.2 rfl;have h2:val xs≠0:=fun e=>this (zaQ hc.1 e);unfold ordI ival;simp only[if_true,Bool.false_eq_true,if_false];rw[if_pos (by omega)]
 ·go_enter Tryz.func55,Tryz.ntmps55;go_wp2_with (go_at_call 86;refine(zkh _ _ _ _ ys xs _ H2.out H1.out (by omega) (by omega)).mono ?_;rintro e w1 ⟨rfl,b⟩;rw[zsJ,←HZ.out]);go_ret;exact⟨rfl,HB.out.trans (b.mono HB.out.size)⟩
theorem zae (s t:Bool)(A B:Option Addr)(c d:Nat)(xs ys:List Nat)(w:World)(h:Us w A c xs)(k:Us w B d ys)(hl:xs.length≤60000)(kl:ys.length≤60000) :
  Calls Tryz.prog 62 #[.agg #[.bool s,.slice A xs.length c],.agg #[.bool t,.slice B ys.length d]] w fun e w'=>e=.returned (.int .i64 (ordI (ival s xs) (ival t ys)))∧Below w.heap.size w w':=by
 have hcap:=h.cap;have kcap:=k.cap;obtain⟨hX,hY,hB⟩:=box2 w (.bool s) (.slice A xs.length c) (.bool t) (.slice B ys.length d) 31;have HB:=Hh hB;have H1:=Hh (h.below HB.out);have H2:=Hh (k.below HB.out);obtain⟨z,hz⟩:∃z,z=ordI (ival s xs) (ival t ys):=⟨_,rfl⟩;rw[←hz];have HZ:=Hh hz;clear h k hX hY hB hz;go_enter Tryz.func62,Tryz.ntmps62;go_wp2_with (go_at_call 64;refine(zct s t _ _ _ _ xs ys _ H1.out H2.out hl kl).mono ?_;rintro e w1 ⟨A1,c1,s1,r1,rfl,q1,k1,v1,b1⟩;have HV:=Hh v1;have rcap:=q1.cap;clear v1)
 ·go_ret;have h0:((r1.length:Int)==0)=true:=by assumption
  exact⟨zcM (by rw[HZ.out];exact((zoo k1 HV.out).1 (by rw[beq_iff_eq] at h0;omega)).symm),(HB.out.trans (b1.mono HB.out.size)).alloc (Nat.le_trans HB.out.size b1.size) _⟩
 ·go_ret;have h0:((r1.length:Int)==0)=false:=by assumption
  have h1:s1=true:=by assumption
  exact⟨zcM (by rw[HZ.out];exact((zoo k1 HV.out).2.1 (by rw[beq_eq_false_iff_ne] at h0;omega) h1).symm),(HB.out.trans (b1.mono HB.out.size)).alloc (Nat.le_trans HB.out.size b1.size) _⟩
 ·go_ret;have h0:((r1.length:Int)==0)=false:=by assumption
  have h1:s1=false:=by assumption
  exact⟨zcM (by rw[HZ.out];exact((zoo k1 HV.out).2.2 (by rw[beq_eq_false_iff_ne] at h0;omega) h1).symm),(HB.out.trans (b1.mono HB.out.size)).alloc (Nat.le_trans HB.out.size b1.size) _⟩
theorem zuV (n:Nat):((n:Int)==0) = !decide (0<n):=by
 cases n with
 | zero=>rfl
 | succ n =>
  rw[beq_eq_false_iff_ne.2 (by omega),decide_eq_true (by omega)];rfl
def zaM (s:Bool)(xs:List Nat):Bool:=zeC xs&&(!s||decide (0<xs.length))
theorem zay (s:Bool)(A:Option Addr)(c:Nat)(xs:List Nat)(w:World)(h:Us w A c xs)(hl:xs.length≤60000) :
  Calls Tryz.prog 38 #[.agg #[.bool s,.slice A xs.length c]] w fun e w'=>e=.returned (.bool (zaM s xs))∧Below w.heap.size w w':=by
 have hcap:=h.cap;obtain⟨hX,hB⟩:=box1 w (.bool s) (.slice A xs.length c) 31;have HB:=Hh hB;have H1:=Hh (h.below HB.out);obtain⟨b,hb⟩:∃b,b=zeC xs:=⟨_,rfl⟩;unfold zaM;rw[←hb];have HR:=Hh hb;clear h hX hB hb;cases b <;> cases s
 all_goals
  go_enter Tryz.func38,Tryz.ntmps38;go_wp2_with (go_at_call 71;refine(znW _ _ xs _ H1.out (by omega)).mono ?_;rintro e w' ⟨rfl,rfl⟩;rw[←HR.out]);go_ret;exact⟨by simp,HB.out⟩
theorem zaU (s:Bool)(A:Option Addr)(c:Nat)(xs:List Nat)(w:World)(h:Us w A c xs)(hl:xs.length≤60000) :
  Calls Tryz.prog 39 #[.agg #[.bool s,.slice A xs.length c]] w fun e w'=>e=.returned (.bool (zaM s xs))∧Below w.heap.size w w':=by
 have hcap:=h.cap;obtain⟨hX,hB⟩:=box1 w (.bool s) (.slice A xs.length c) 31;have HB:=Hh hB;have H1:=Hh (h.below HB.out);obtain⟨b,hb⟩:∃b,b=zeC xs:=⟨_,rfl⟩;unfold zaM;rw[←hb];have HR:=Hh hb;clear h hX hB hb;cases b <;> cases s
 all_goals
  go_enter Tryz.func39,Tryz.ntmps39;go_wp2_with (go_at_call 72;refine(zmD _ _ xs _ H1.out (by omega)).mono ?_;rintro e w' ⟨rfl,rfl⟩;rw[←HR.out]);go_ret;exact⟨by simp[zuV],HB.out⟩
theorem zop (A B:Option Addr)(c d:Nat)(xs ys:List Nat)(w:World)(h:Us w A c xs)(k:Us w B d ys)(hx:xs.length≤1000000) :
  Calls Tryz.prog 73 #[.slice A xs.length c,.slice B ys.length d] w fun e w'=>e=.returned (.bool (decide (xs=ys)))∧Below w.heap.size w w':=by
 obtain⟨r,hr⟩:∃r,r=decide (xs=ys):=⟨_,rfl⟩;rw[←hr];have HR:=Hh hr;clear hr;by_cases hl:xs.length=ys.length
 ·by_cases h0:0<xs.length
  ·obtain⟨b,off,rfl,hb,hc⟩:=h.at_ h0
   obtain⟨b2,off2,rfl,hb2,hc2⟩:=k.at_ (by omega)
   clear h k;obtain⟨n,hn⟩:∃n,n=xs.length:=⟨_,rfl⟩;rw[←hl,←hn];have HC:=Hh hc;have HC2:=Hh hc2;have HL:=Hh hl;have HN:=Hh hn;have hn1:n≤1000000:=by omega
   clear hc hc2 hl hn h0 hx;go_enter Tryz.func73,Tryz.ntmps73;go_wp2;go_loopw [13] (fun i wr=>∃k:Nat,k≤n∧i=.int .i64 k∧(∀j,j<k→xs[j]?.getD 0=ys[j]?.getD 0)∧Below w.heap.size w wr) (fun i _=>n-(intOf i).toNat)
   case atStart=>exact⟨0,by omega,rfl,fun j hj=>by omega,Below.refl _ _⟩
   case round =>
    obtain⟨k,hk,rfl,hall,hbw⟩:=hrel;have HA:=Hh hall;clear hall;by_cases hlt:k<n
    ·have e1:=(hbw.cell (p:=⟨b,off+k,none⟩) hb).trans (HC.out k (by rw[←HN.out];exact hlt));have e2:=(hbw.cell (p:=⟨b2,off2+k,none⟩) hb2).trans (HC2.out k (by rw[←HL.out,←HN.out];exact hlt));obtain⟨x,hxe⟩:∃x,x=xs[k]?.getD 0:=⟨_,rfl⟩;obtain⟨y,hye⟩:∃y,y=ys[k]?.getD 0:=⟨_,rfl⟩;rw[←hxe] at e1;rw[←hye] at e2;have HX:=Hh hxe;have HY:=Hh hye;clear hxe hye;have i1:(k:Int)<(n:Int):=by omega
     by_cases hxy:x=y
     ·subst hxy;go_wp2;go_quiet (fail);go_wp2;go_roundw
      case rel =>
       refine⟨k+1,by omega,by go_num,fun j hj=>?_,zab hbw _⟩;rcases Nat.lt_or_ge j k with h1|h1
       ·exact HA.out j h1
       ·have:j=k:=by omega
        subst this;rw[←HX.out,←HY.out]
      case measure=>simp[intOf];omega
     ·have t1:((x:Int)!=(y:Int))=true:=by rw[bne_iff_ne];omega
      clear hxy;go_wp2;go_quiet (fail);go_wp2;go_ret;refine⟨?_,zab hbw _⟩;have:r=false:=by
       rw[HR.out];refine decide_eq_false fun e=>?_;have:=HX.out;rw[e,←HY.out] at this;subst this;simp at t1
      rw[this];rfl
    ·obtain rfl:k=n:=by omega
     go_wp2;go_ret;refine⟨?_,hbw⟩;have:r=true:=by
      rw[HR.out];exact decide_eq_true (zhv HL.out (by rw[←HN.out];exact HA.out))
     rw[this];rfl
  ·have e1:xs.length=0:=by omega
   have e2:ys.length=0:=by omega
   have:r=true:=by
    rw[HR.out];exact decide_eq_true ((List.eq_nil_of_length_eq_zero e1).trans (List.eq_nil_of_length_eq_zero e2).symm)
   rw[e1,e2,this];clear HR h k h0 hx hl e1 e2 this;go_enter Tryz.func73,Tryz.ntmps73;go_wp2;refine wp_loop_rounds 1 ?_;rw[rounds_succ];go_wp2;go_ret;exact⟨rfl,Below.refl _ _⟩
 ·have:r=false:=by
   rw[HR.out];exact decide_eq_false fun e=>hl (by rw[e])
  rw[this];clear HR this h k;have t1:((xs.length:Int)!=(ys.length:Int))=true:=by rw[bne_iff_ne];omega
  clear hl;generalize xs.length=n at *;generalize ys.length=m at *;go_enter Tryz.func73,Tryz.ntmps73;go_wp2;go_ret;exact⟨rfl,Below.refl _ _⟩
theorem zdt (s t:Bool)(A B:Option Addr)(c d:Nat)(xs ys:List Nat)(w:World)(h:Us w A c xs)(k:Us w B d ys)(hl:xs.length≤1000000) :
  Calls Tryz.prog 40 #[.agg #[.bool s,.slice A xs.length c],.agg #[.bool t,.slice B ys.length d]] w fun e w'=>e=.returned (.bool (decide (s=t∧xs=ys)))∧Below w.heap.size w w':=by
 have hcap:=h.cap;have kcap:=k.cap;obtain⟨hX,hY,hB⟩:=box2 w (.bool s) (.slice A xs.length c) (.bool t) (.slice B ys.length d) 31;have HX:=Hh hX.drew;have HY:=Hh hY.drew;have HB:=Hh hB;have H1:=Hh (h.below HB.out);have H2:=Hh (k.below HB.out);obtain⟨z,hz⟩:∃z,z=decide (xs=ys):=⟨_,rfl⟩;have hzz:decide (s=t∧xs=ys)=(decide (s=t)&&z):=by rw[hz];simp
 rw[hzz];have HZ:=Hh hz;clear h k hX hY hB hz hzz;cases s <;> cases t
 all_goals
  go_enter Tryz.func40,Tryz.ntmps40;go_wp2_with (go_at_call 73;refine(zop _ _ _ _ xs ys _ H1.out H2.out hl).mono ?_;rintro e w1 ⟨rfl,b1⟩;rw[←HZ.out]);go_ret
  first|exact⟨by simp,HB.out.trans (b1.mono HB.out.size)⟩|exact⟨by simp,HB.out⟩
theorem zbS (s t:Bool)(A B:Option Addr)(c d:Nat)(xs ys:List Nat)(w:World)(h:Us w A c xs)(k:Us w B d ys)(hl:xs.length≤1000000) :
  Calls Tryz.prog 32 #[.agg #[.bool s,.slice A xs.length c],.agg #[.bool t,.slice B ys.length d]] w fun e w'=>e=.returned (.bool (decide (s=t∧xs=ys)))∧Below w.heap.size w w':=by
 have hcap:=h.cap;have kcap:=k.cap;obtain⟨hX,hY,hB⟩:=box2 w (.bool s) (.slice A xs.length c) (.bool t) (.slice B ys.length d) 31;have HX:=Hh hX.drew;have HY:=Hh hY.drew;have HB:=Hh hB;have H1:=Hh (h.below HB.out);have H2:=Hh (k.below HB.out);obtain⟨z,hz⟩:∃z,z=decide (xs=ys):=⟨_,rfl⟩;have hzz:decide (s=t∧xs=ys)=(decide (s=t)&&z):=by rw[hz];simp
 rw[hzz];have HZ:=Hh hz;clear h k hX hY hB hz hzz;cases s <;> cases t
 all_goals
  go_enter Tryz.func32,Tryz.ntmps32;go_wp2_with (go_at_call 65;refine(zqL _ _ _ _ xs ys _ H1.out H2.out hl).mono ?_;rintro e w1 ⟨rfl,b1⟩;rw[←HZ.out]);go_ret
  first|exact⟨by simp,HB.out.trans (b1.mono HB.out.size)⟩|exact⟨by simp,HB.out⟩
end Go.Proofs.YtikehjindobpkaaGreat

namespace Go.Proofs.YtikehjindobpkaaGreat.Nds
theorem zmL {x:Nd}{p q:Int→Bool}(h:∀i,i<4→p (x.kid i)=q (x.kid i)):x.each p=x.each q:=by
 have h0:p x.a=q x.a:=h 0 (by omega);have h1:p x.b=q x.b:=h 1 (by omega);have h2:p x.c=q x.c:=h 2 (by omega);have h3:p x.d=q x.d:=h 3 (by omega);unfold Nd.each;rw[h0,h1,h2,h3]
theorem ztC {x:Nd}{p:Int→Bool}{i:Nat}(hi:i<4)(h:p (x.kid i)=false):x.each p=false:=by
 cases hq:x.each p
 ·rfl
 ·have:=zbU.1 hq i hi;rw[h] at this;cases this
def zio (es:List Bool)(x:Nd):Bool:=x.each fun c=>c==0||(decide (1<x.lv)&&es.getD c.toNat false)
def emps (l:List Nd):List Bool:=l.foldl (fun es x=>es++[zio es x]) [true]
def empB (l:List Nd)(n:Nat):Bool:=(emps l).getD n false
def zcN (l:List Nd)(x:Nd):Bool:=zio (emps l) x
theorem zeH (l:List Nd)(x:Nd):emps (l++[x])=emps l++[zio (emps l) x]:=by
 unfold emps;rw[List.foldl_append];rfl
theorem zly (l:List Nd):(emps l).length=l.length+1:=by
 suffices h:∀k,k≤l.length→(emps (l.take k)).length=k+1 by
  have:=h l.length (Nat.le_refl _)
  rwa [List.take_of_length_le (Nat.le_refl _)] at this
 intro k
 induction k with
 | zero=>intro _;rfl
 | succ k ih =>
  intro hk;rw[zeo (by omega),zeH,List.length_append,ih (by omega)];rfl
theorem zoq (l:List Nd):∀k,k≤l.length→emps (l.take k)=(emps l).take (k+1):=by
 suffices h:∀d k,k+d=l.length→emps (l.take k)=(emps l).take (k+1) from fun k hk=>h (l.length-k) k (by omega)
 intro d
 induction d with
 | zero =>
  intro k hk;rw[List.take_of_length_le (by omega),List.take_of_length_le (by rw[zly];omega)]
 | succ d ih =>
  intro k hk;have h:=ih (k+1) (by omega);rw[zeo (by omega),zeH] at h;have hl:(emps (l.take k)).length=k+1:=by rw[zly,List.length_take];omega
  have:=congrArg (List.take (k+1)) h;rw[List.take_append_of_le_length (by omega),List.take_of_length_le (by omega),List.take_take] at this;rw[this];congr 1;omega
theorem zor (l:List Nd):empB l 0=true:=by
 have h:=zoq l 0 (by omega);have h2:((emps l).take 1)[0]?=some true:=by
  rw[←h];rfl
 rw[List.getElem?_take,if_pos (by omega)] at h2;unfold empB;rw[List.getD_eq_getElem?_getD,h2];rfl
theorem zaJ {l:List Nd}{x:Nd}(h:fitB l x=true):1≤x.lv∧x.lv≤1329:=by
 unfold fitB at h;rw[Bool.and_eq_true,decide_eq_true_iff] at h;exact h.1
theorem zan {l:List Nd}{x:Nd}(h:fitB l x=true){i:Nat}(hi:i<4):kidB l x.lv (x.kid i)=true:=by
 unfold fitB at h;rw[Bool.and_eq_true,zbU] at h;exact h.2 i hi
theorem zaO {l:List Nd}{v k:Int}(hv:v≠1)(h:kidB l v k=true):k=0∨∃m:Nat,k=(m:Int)+1∧m<l.length∧(at_ l m).lv=v-1:=by
 unfold kidB at h;rw[if_neg hv,decide_eq_true_iff] at h;rcases h with h|⟨h1,h2,h3⟩
 ·exact .inl h
 ·refine .inr ⟨k.toNat-1,by omega,by omega,h3⟩
theorem zlz {l:List Nd}{i:Nat}{v k:Int}(h:kidB (l.take i) v k=true):kidB l v k=true:=by
 by_cases hv:v=1
 ·subst hv;exact h
 ·have hle:=List.length_take_le' i l;have hli:=List.length_take_le i l;rcases zaO hv h with rfl|⟨m,rfl,hm,hl⟩
  ·unfold kidB;rw[if_neg hv];exact decide_eq_true (.inl rfl)
  ·unfold kidB;rw[if_neg hv];have e:((m:Int)+1).toNat-1=m:=by omega
   rw[zfj (by omega)] at hl;exact decide_eq_true (.inr ⟨by omega,by omega,by rw[e];exact hl⟩)
theorem zlA {l:List Nd}{i:Nat}{x:Nd}(h:fitB (l.take i) x=true):fitB l x=true:=by
 have h1:=zaJ h;unfold fitB;rw[Bool.and_eq_true,zbU];exact⟨decide_eq_true h1,fun j hj=>zlz (zan h hj)⟩
theorem zaG {l:List Nd}:zad l=true↔∀i,i<l.length→fitB (l.take i) (at_ l i)=true:=by
 unfold zad;rw[List.all_eq_true];exact⟨fun h i hi=>h i (List.mem_range.2 hi),fun h i hi=>h i (List.mem_range.1 hi)⟩
theorem zai {l:List Nd}(h:zad l=true){i:Nat}(hi:i<l.length):fitB l (at_ l i)=true:=zlA (zaG.1 h i hi)
end Go.Proofs.YtikehjindobpkaaGreat.Nds

namespace Go.Proofs.YtikehjindobpkaaGreat.Nds
def zvX (f:Nat→Nat→Option Nat)(e:Option Nat)(k:Int):Option Nat:=e.bind fun e=>if (e:Int)<k then f k.toNat e else some e
def zsL (f:Nat→Nat→Option Nat)(x:Nd)(e:Nat):Nat→Option Nat
 | 0=>some e
 | k+1=>zvX f (zsL f x e k) (x.kid k)
def wk (l:List Nd):Nat→Nat→Nat→Option Nat
 | 0,_,_=>none
 | m+1,n,e=>(if 1<(at_ l (n-1)).lv then zsL (wk l m) (at_ l (n-1)) e 4 else some e).bind fun e'=>if n=e'+1 then some n else none
def zos (f:Nat→List Nat→List Nat)(out:List Nat)(k:Int):List Nat:=if 0<k then f k.toNat out else out
def zqU (f:Nat→List Nat→List Nat)(x:Nd)(out:List Nat):Nat→List Nat
 | 0=>out
 | k+1=>zos f (zqU f x out k) (x.kid k)
def endL (l:List Nd):Nat→Nat→List Nat→List Nat
 | 0,_,out=>out
 | m+1,n,out=>if n∈out then out else (if 1<(at_ l (n-1)).lv then zqU (endL l m) (at_ l (n-1)) out 4 else out)++[n]
theorem ztD {l:List Nd}{m n:Nat}{out:List Nat}(h:n∈out):endL l m n out=out:=by
 cases m with
 | zero=>rfl
 | succ m =>
  unfold endL;rw[if_pos h]
theorem zfT:∀(N:Nat) (out:List Nat),out.Nodup→(∀v∈out,0<v∧v≤N)→out.length≤N
 | 0,out,_,h=>by
  cases out with
  | nil=>exact Nat.le_refl _
  | cons a r=>have:=h a (by simp);omega
 | N+1,out,hd,h=>by
  by_cases hm:N+1∈out
  ·have h1:=zfT N (out.erase (N+1)) (hd.erase _) (fun v hv=>by
    have hv2:=(hd.mem_erase_iff).1 hv;have:=h v hv2.2;have:=hv2.1;omega)
   rw[List.length_erase_of_mem hm] at h1;omega
  ·have:=zfT N out hd (fun v hv=>by
    have:=h v hv;have:v≠N+1:=fun e=>hm (e ▸ hv);omega)
   omega
def upto (e:Nat):List Nat:=List.range' 1 e
theorem zlB {e v:Nat}:v∈upto e↔0<v∧v≤e:=by
 unfold upto;rw[List.mem_range'_1];omega
theorem zot (e:Nat):upto e++[e+1]=upto (e+1):=by
 unfold upto;rw[List.range'_concat];simp[Nat.add_comm]
end Go.Proofs.YtikehjindobpkaaGreat.Nds
