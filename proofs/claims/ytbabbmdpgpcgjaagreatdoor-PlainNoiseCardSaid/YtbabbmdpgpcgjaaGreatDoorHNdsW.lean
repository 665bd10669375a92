import Derived.Test.YtbabbmdpgpcgjaaGreatDoorHBig
import Derived.Test.YtbabbmdpgpcgjaaGreatDoorHNdMem

set_option linter.unusedVariables false
set_option linter.unusedSimpArgs false
set_option maxRecDepth 100000
set_option maxHeartbeats 6400000
namespace Go.Proofs.YtbabbmdpgpcgjaaGreatDoor
open Go.RowKit Num
def shlI (x:Int)(n:Int):Int:=if 0≤n∧n≤10000 then x*2^n.toNat else 0
theorem zmX (s:Bool){xs r:List Nat}{n:Int}(h:val r=shlN (val xs) n):ival s r=shlI (ival s xs) n:=by
 unfold ival shlI;rw[h];unfold shlN;by_cases hn:0≤n∧n≤10000
 ·rw[if_pos hn,if_pos hn];cases s <;> simp[Int.neg_mul]
 ·rw[if_neg hn,if_neg hn];cases s <;> rfl
theorem zvO {xs r:List Nat}{n:Int}(hd:Dig xs)(hl:xs.length≤60000)(hc:zaS r)(hv:val r=shlN (val xs) n):r.length≤60313:=by
 obtain⟨K,hK⟩:∃K,K=60000:=⟨_,rfl⟩;obtain⟨M,hM⟩:∃M,M=313:=⟨_,rfl⟩;rw[←hK] at hl;have h3:=Nat.lt_of_lt_of_le (zcl hd) (Nat.pow_le_pow_right (by decide) hl);have h5:r.length≤K+M:=by
  refine zmL hc ?_;rw[hv,Nat.pow_add,zuZ M];generalize (4294967296:Nat)^K=P at *;unfold shlN;split
  ·rename_i h;have h4:2^n.toNat≤2^(32*M):=Nat.pow_le_pow_right (by decide) (by omega);exact Nat.lt_of_le_of_lt (Nat.mul_le_mul_left _ h4) (Nat.mul_lt_mul_of_pos_right h3 (Nat.two_pow_pos _))
  ·exact Nat.mul_pos (by omega) (Nat.two_pow_pos _)
 omega
theorem zsO (s:Bool){xs r:List Nat}(h:val r=val xs):ival (!s) r = -ival s xs:=by
 unfold ival;rw[h];cases s <;> simp
theorem zfp (s:Bool)(A:Option Addr)(c:Nat)(xs:List Nat)(w:World)(h:Us w A c xs)(hl:xs.length≤100000) :
  Calls Tryz.prog 75 #[.agg #[.bool s,.slice A xs.length c]] w (RetI (-ival s xs) w):=by
 have hcap:=h.cap;obtain⟨hX,hR,hB⟩:=box2 w (.bool s) (.slice A xs.length c) (.bool false) (.slice none 0 0) 69;have HR:=Hh hR;have HB:=Hh hB;have H1:=Hh (h.below HB.out);clear h hX hR hB;go_enter Tryz.func75,Tryz.ntmps75;go_wp2_with (go_at_call 82;refine(zco (!s) _ _ xs _ H1.out hl).mono ?_;rintro e w2 ⟨A2,c2,s2,r2,rfl,q2,k2,v2,b2⟩;obtain⟨y1,y2,y3,y4,_⟩:=HR.out.below b2);obtain⟨e1,e2,_,_,_⟩:=(HR.out.below b2).set (.bool s2) (.slice A2 r2.length c2);refine bodyPost_ret (v:=.agg #[.bool s2,.slice A2 r2.length c2]) (by simp[results,Tryz.results75,go_sem,e1,e2]) rfl ?_;exact RetI.box (by omega) (HR.out.below b2) q2 k2 (v2.trans (zsO s rfl)) (HB.out.trans (b2.mono HB.out.size))
theorem ziW (s:Bool)(A:Option Addr)(c:Nat)(xs:List Nat)(n:Int)(w:World)(h:Us w A c xs)(hl:xs.length≤100000) :
  Calls Tryz.prog 139 #[.agg #[.bool s,.slice A xs.length c],.int .i64 n] w (RetI (shlI (ival s xs) n) w):=by
 have hcap:=h.cap;obtain⟨hX,hR,hB⟩:=box2 w (.bool s) (.slice A xs.length c) (.bool false) (.slice none 0 0) 69;have HX:=Hh hX.drew;have HR:=Hh hR.drew;have HB:=Hh (Below.drew' hB);have H1:=Hh (h.below HB.out);clear h hX hR hB;go_enter Tryz.func139,Tryz.ntmps139;go_wp2_with fail;go_region_held3 (fun w'=>w'.cell? ⟨w.heap.size,0,none⟩=some (.bool s)∧w'.cell? ⟨w.heap.size,1,none⟩=some (.slice A xs.length c))
  (first|go_keep|fail)
  (first
   | (go_at_call 173;refine(zyG _ _ xs n _ H1.out (by omega)).mono ?_;rintro e w1 ⟨A1,c1,r1,rfl,q1,k1,v1,b1⟩;obtain⟨x1,x2,_,_,_⟩:=HX.out.below b1)
   | (go_at_call 170;refine(zbJ s _ _ r1 _ q1 k1).mono ?_;rintro e w2 ⟨A2,c2,s2,r2,rfl,q2,k2,v2,b2⟩;obtain⟨x1,x2,_,_,_⟩:=(HX.out.below b1).below b2;obtain⟨y1,y2,y3,y4,_⟩:=(HR.out.below b1).below b2))
 go_wp2;obtain⟨e1,e2,_,_,_⟩:=(((HR.out.below b1).below b2).set (.bool s2) (.slice A2 r2.length c2));refine bodyPost_ret (v:=.agg #[.bool s2,.slice A2 r2.length c2]) (by simp[results,Tryz.results139,go_sem,e1,e2]) rfl ?_;exact RetI.box (by omega) ((HR.out.below b1).below b2) q2 k2 (v2.trans (zmX s v1)) ((HB.out.trans (b1.mono HB.out.size)).trans (b2.mono (HB.out.trans (b1.mono HB.out.size)).size))
theorem zpJ (s:Bool)(A:Option Addr)(c:Nat)(xs:List Nat)(n:Int)(w:World)(h:Us w A c xs)(hl:xs.length≤60000) :
  Calls Tryz.prog 109 #[.agg #[.bool s,.slice A xs.length c],.int .i64 n] w (RetI (shlI (ival s xs) n) w):=by
 have hcap:=h.cap;obtain⟨hX,hR,hB⟩:=box2 w (.bool s) (.slice A xs.length c) (.bool false) (.slice none 0 0) 69;have HX:=Hh hX.drew;have HR:=Hh hR.drew;have HB:=Hh (Below.drew' hB);have hd:=h.1;have H1:=Hh (h.below HB.out);clear h hX hR hB;go_enter Tryz.func109,Tryz.ntmps109;go_wp2_with fail;go_region_held3 (fun w'=>w'.cell? ⟨w.heap.size,0,none⟩=some (.bool s)∧w'.cell? ⟨w.heap.size,1,none⟩=some (.slice A xs.length c))
  (first|go_keep|fail)
  (first
   | (go_at_call 155;refine(zxx _ _ xs n _ H1.out (by omega)).mono ?_;rintro e w1 ⟨A1,c1,r1,rfl,q1,k1,v1,b1⟩;obtain⟨x1,x2,_,_,_⟩:=HX.out.below b1)
   | (go_at_call 82;refine(zco s _ _ r1 _ q1 (by have:=zvO hd hl k1 v1;omega)).mono ?_;rintro e w2 ⟨A2,c2,s2,r2,rfl,q2,k2,v2,b2⟩;obtain⟨x1,x2,_,_,_⟩:=(HX.out.below b1).below b2;obtain⟨y1,y2,y3,y4,_⟩:=(HR.out.below b1).below b2))
 go_wp2;obtain⟨e1,e2,_,_,_⟩:=(((HR.out.below b1).below b2).set (.bool s2) (.slice A2 r2.length c2));refine bodyPost_ret (v:=.agg #[.bool s2,.slice A2 r2.length c2]) (by simp[results,Tryz.results109,go_sem,e1,e2]) rfl ?_;exact RetI.box (by omega) ((HR.out.below b1).below b2) q2 k2 (v2.trans (zmX s v1)) ((HB.out.trans (b1.mono HB.out.size)).trans (b2.mono (HB.out.trans (b1.mono HB.out.size)).size))
-- ADD --
theorem zpK {xs ys r:List Nat}(hd:Dig xs)(kd:Dig ys)(hl:xs.length≤60000)(kl:ys.length≤60000)(hc:zaS r)(hv:val r=val xs+val ys):r.length≤60001:=by
 obtain⟨K,hK⟩:∃K,K=60000:=⟨_,rfl⟩;rw[←hK] at hl kl;have h1:=Nat.lt_of_lt_of_le (zcl hd) (Nat.pow_le_pow_right (by decide) hl);have h2:=Nat.lt_of_lt_of_le (zcl kd) (Nat.pow_le_pow_right (by decide) kl);have h3:r.length≤K+1:=zmL hc (by rw[hv,Nat.pow_succ];omega);omega
theorem zga {xs r:List Nat}{n:Nat}(hd:Dig xs)(hl:xs.length≤60000)(hc:zaS r)(hv:val r=val xs-n):r.length≤60000:=by
 obtain⟨K,hK⟩:∃K,K=60000:=⟨_,rfl⟩;rw[←hK] at hl;have h1:=Nat.lt_of_lt_of_le (zcl hd) (Nat.pow_le_pow_right (by decide) hl);have h3:r.length≤K:=zmL hc (by rw[hv];omega);omega
theorem zpL (s:Bool)(A B:Option Addr)(c d:Nat)(xs ys:List Nat)(w:World)(h:Us w A c xs)(k:Us w B d ys)(hl:xs.length≤60000)(kl:ys.length≤60000) :
  Calls Tryz.prog 141 #[.agg #[.bool s,.slice A xs.length c],.agg #[.bool s,.slice B ys.length d]] w (RetI (ival s xs+ival s ys) w):=by
 have hcap:=h.cap;have kcap:=k.cap;obtain⟨hX,hY,hR,hB⟩:=box3 w (.bool s) (.slice A xs.length c) (.bool s) (.slice B ys.length d) (.bool false) (.slice none 0 0) 69;have HX:=Hh hX.drew;have HY:=Hh hY.drew;have HR:=Hh hR.drew;have HB:=Hh (Below.drew' hB);have H1:=Hh (h.below HB.out);have H2:=Hh (k.below HB.out);have hd:=h.1;have kd:=k.1;clear h k hX hY hR hB;have n1:¬ w.heap.size=w.heap.size+1+1:=by omega
 have n2:¬ w.heap.size+1+1=w.heap.size:=by omega
 go_enter Tryz.func141,Tryz.ntmps141;go_wp2_with fail;go_region_held3 (fun w'=>w'.cell? ⟨w.heap.size,0,none⟩=some (.bool s)∧w'.cell? ⟨w.heap.size,1,none⟩=some (.slice A xs.length c)∧w'.cell? ⟨w.heap.size+1,1,none⟩=some (.slice B ys.length d))
  (first|go_keep|fail)
  (first
   | (go_at_call 174;refine(zvF _ _ _ _ xs ys _ H1.out H2.out (by omega) (by omega)).mono ?_;rintro e w1 ⟨A1,c1,r1,rfl,q1,k1,v1,b1⟩;obtain⟨x1,x2,_,_,_⟩:=HX.out.below b1;obtain⟨_,z2,_,_,_⟩:=HY.out.below b1;have l1:=zpK hd kd hl kl k1 v1)
   | (go_at_call 170;refine(zbJ s _ _ r1 _ q1 k1).mono ?_;rintro e w2 ⟨A2,c2,s2,r2,rfl,q2,k2,v2,b2⟩;obtain⟨x1,x2,_,_,_⟩:=(HX.out.below b1).below b2;obtain⟨_,z2,_,_,_⟩:=(HY.out.below b1).below b2;obtain⟨y1,y2,y3,y4,_⟩:=(HR.out.below b1).below b2))
 go_wp2;obtain⟨e1,e2,_,_,_⟩:=(((HR.out.below b1).below b2).set (.bool s2) (.slice A2 r2.length c2));refine bodyPost_ret (v:=.agg #[.bool s2,.slice A2 r2.length c2]) (by simp[results,Tryz.results141,go_sem,e1,e2]) rfl ?_;refine RetI.box (by omega) ((HR.out.below b1).below b2) q2 k2 (v2.trans ?_) ((HB.out.trans (b1.mono HB.out.size)).trans (b2.mono (HB.out.trans (b1.mono HB.out.size)).size));unfold ival;rw[v1];cases s <;> simp <;> omega
theorem zpM (s:Bool)(A B:Option Addr)(c d:Nat)(xs ys:List Nat)(w:World)(h:Us w A c xs)(k:Us w B d ys)(hl:xs.length≤60000)(kl:ys.length≤60000)(hle:val ys≤val xs) :
  Calls Tryz.prog 141 #[.agg #[.bool s,.slice A xs.length c],.agg #[.bool (!s),.slice B ys.length d]] w (RetI (ival s xs+ival (!s) ys) w):=by
 have hcap:=h.cap;have kcap:=k.cap;obtain⟨hX,hY,hR,hB⟩:=box3 w (.bool s) (.slice A xs.length c) (.bool (!s)) (.slice B ys.length d) (.bool false) (.slice none 0 0) 69;have HX:=Hh hX;have HY:=Hh hY;have HR:=Hh hR;have HB:=Hh (hB);have H1:=Hh (h.below HB.out);have H2:=Hh (k.below HB.out);have hd:=h.1;have kd:=k.1;clear h k hX hY hR hB;have n1:¬ w.heap.size=w.heap.size+1+1:=by omega
 have n2:¬ w.heap.size+1+1=w.heap.size:=by omega
 have HL:=Hh hle;clear hle;have hst:(s == !s)=false:=by cases s <;> rfl
 go_enter Tryz.func141,Tryz.ntmps141;go_wp2_with (first
  | (go_at_call_of 175 (Value.slice A xs.length c);go_loud (refine(zlC _ _ _ _ xs ys _ H1.out H2.out (by omega) (by omega)).mono ?_;intro e w1 h;obtain⟨A1,c1,r1,rfl,q1,k1,v1,b1⟩:=h.2 HL.out;clear h;obtain⟨x1,x2,_,_,_⟩:=HX.out.below b1;obtain⟨z1,z2,_,_,_⟩:=HY.out.below b1;have l1:=zga hd hl k1 v1;have HV:=Hh v1;clear v1))
  | (go_at_call 170;go_loud (refine(zbJ s _ _ r1 _ q1 k1).mono ?_;rintro e w2 ⟨A2,c2,s2,r2,rfl,q2,k2,v2,b2⟩;obtain⟨y1,y2,y3,y4,_⟩:=(HR.out.below b1).below b2;have HV2:=Hh v2;clear v2)))
 obtain⟨e1,e2,_,_,_⟩:=(((HR.out.below b1).below b2).set (.bool s2) (.slice A2 r2.length c2));refine bodyPost_ret (v:=.agg #[.bool s2,.slice A2 r2.length c2]) (by simp[results,Tryz.results141,go_sem,e1,e2]) rfl ?_;refine RetI.box (by omega) ((HR.out.below b1).below b2) q2 k2 (HV2.out.trans ?_) ((HB.out.trans (b1.mono HB.out.size)).trans (b2.mono (HB.out.trans (b1.mono HB.out.size)).size));have hle:=HL.out;unfold ival;rw[HV.out];cases s <;> simp <;> omega
theorem zpN (s:Bool)(A B:Option Addr)(c d:Nat)(xs ys:List Nat)(w:World)(h:Us w A c xs)(k:Us w B d ys)(hl:xs.length≤60000)(kl:ys.length≤60000)(hle:val xs<val ys) :
  Calls Tryz.prog 141 #[.agg #[.bool s,.slice A xs.length c],.agg #[.bool (!s),.slice B ys.length d]] w (RetI (ival s xs+ival (!s) ys) w):=by
 have hcap:=h.cap;have kcap:=k.cap;obtain⟨hX,hY,hR,hB⟩:=box3 w (.bool s) (.slice A xs.length c) (.bool (!s)) (.slice B ys.length d) (.bool false) (.slice none 0 0) 69;have HX:=Hh hX;have HY:=Hh hY;have HR:=Hh hR;have HB:=Hh (hB);have H1:=Hh (h.below HB.out);have H2:=Hh (k.below HB.out);have hd:=h.1;have kd:=k.1;clear h k hX hY hR hB;have n1:¬ w.heap.size=w.heap.size+1+1:=by omega
 have n2:¬ w.heap.size+1+1=w.heap.size:=by omega
 have HL:=Hh hle;clear hle;have hst:(s == !s)=false:=by cases s <;> rfl
 have tok0:True:=trivial;go_enter Tryz.func141,Tryz.ntmps141;go_wp2_with (first
  | (go_at_call 175;have _t:=tok0;refine(zlC A B _ _ xs ys _ H1.out H2.out (by omega) (by omega)).mono ?_;intro e w1 h;obtain⟨rfl,b1⟩:=h.1 HL.out;clear h tok0 _t;obtain⟨x1,x2,_,_,_⟩:=HX.out.below b1;obtain⟨z1,z2,_,_,_⟩:=HY.out.below b1)
  | (go_at_call 175;go_loud (refine(zlC B A _ _ ys xs _ (H2.out.below b1) (H1.out.below b1) (by omega) (by omega)).mono ?_;intro e w3 h;obtain⟨A1,c1,r1,rfl,q1,k1,v1,b3⟩:=h.2 (Nat.le_of_lt HL.out);clear h x1 x2 z1 z2;obtain⟨x1,x2,_,_,_⟩:=(HX.out.below b1).below b3;obtain⟨z1,z2,_,_,_⟩:=(HY.out.below b1).below b3;have l1:=zga kd kl k1 v1;have HV:=Hh v1;clear v1))
  | (go_at_call 170;go_loud (refine(zbJ (!s) _ _ r1 _ q1 k1).mono ?_;rintro e w2 ⟨A2,c2,s2,r2,rfl,q2,k2,v2,b2⟩;obtain⟨y1,y2,y3,y4,_⟩:=((HR.out.below b1).below b3).below b2;have HV2:=Hh v2;clear v2)))
 obtain⟨e1,e2,_,_,_⟩:=((((HR.out.below b1).below b3).below b2).set (.bool s2) (.slice A2 r2.length c2));refine bodyPost_ret (v:=.agg #[.bool s2,.slice A2 r2.length c2]) (by simp[results,Tryz.results141,go_sem,e1,e2]) rfl ?_;have hb1:=HB.out.trans (b1.mono HB.out.size);have hb3:=hb1.trans (b3.mono hb1.size);refine RetI.box (by omega) (((HR.out.below b1).below b3).below b2) q2 k2 (HV2.out.trans ?_) (hb3.trans (b2.mono hb3.size));have hle:=HL.out;unfold ival;rw[HV.out];cases s <;> simp <;> omega
theorem zeI (s t:Bool)(A B:Option Addr)(c d:Nat)(xs ys:List Nat)(w:World)(h:Us w A c xs)(k:Us w B d ys)(hl:xs.length≤60000)(kl:ys.length≤60000) :
  Calls Tryz.prog 141 #[.agg #[.bool s,.slice A xs.length c],.agg #[.bool t,.slice B ys.length d]] w (RetI (ival s xs+ival t ys) w):=by
 by_cases hst:s=t
 ·subst hst;exact zpL s A B c d xs ys w h k hl kl
 ·obtain rfl:t = !s:=by cases s <;> cases t <;> simp_all
  rcases Nat.lt_or_ge (val xs) (val ys) with hlt|hge
  ·exact zpN s A B c d xs ys w h k hl kl hlt
  ·exact zpM s A B c d xs ys w h k hl kl hge
theorem znX (s:Bool)(A B:Option Addr)(c d:Nat)(xs ys:List Nat)(w:World)(h:Us w A c xs)(k:Us w B d ys)(hl:xs.length≤60000)(kl:ys.length≤60000) :
  Calls Tryz.prog 61 #[.agg #[.bool s,.slice A xs.length c],.agg #[.bool s,.slice B ys.length d]] w (RetI (ival s xs+ival s ys) w):=by
 have hcap:=h.cap;have kcap:=k.cap;obtain⟨hX,hY,hR,hB⟩:=box3 w (.bool s) (.slice A xs.length c) (.bool s) (.slice B ys.length d) (.bool false) (.slice none 0 0) 69;have HX:=Hh hX.drew;have HY:=Hh hY.drew;have HR:=Hh hR.drew;have HB:=Hh (Below.drew' hB);have H1:=Hh (h.below HB.out);have H2:=Hh (k.below HB.out);have hd:=h.1;have kd:=k.1;clear h k hX hY hR hB;have n1:¬ w.heap.size=w.heap.size+1+1:=by omega
 have n2:¬ w.heap.size+1+1=w.heap.size:=by omega
 go_enter Tryz.func61,Tryz.ntmps61;go_wp2_with fail;go_region_held3 (fun w'=>w'.cell? ⟨w.heap.size,0,none⟩=some (.bool s)∧w'.cell? ⟨w.heap.size,1,none⟩=some (.slice A xs.length c)∧w'.cell? ⟨w.heap.size+1,1,none⟩=some (.slice B ys.length d))
  (first|go_keep|fail)
  (first
   | (go_at_call 86;refine(zsM _ _ _ _ xs ys _ H1.out H2.out (by omega) (by omega)).mono ?_;rintro e w1 ⟨A1,c1,r1,rfl,q1,k1,v1,b1⟩;obtain⟨x1,x2,_,_,_⟩:=HX.out.below b1;obtain⟨_,z2,_,_,_⟩:=HY.out.below b1;have l1:=zpK hd kd hl kl k1 v1)
   | (go_at_call 82;refine(zco s _ _ r1 _ q1 (by omega)).mono ?_;rintro e w2 ⟨A2,c2,s2,r2,rfl,q2,k2,v2,b2⟩;obtain⟨x1,x2,_,_,_⟩:=(HX.out.below b1).below b2;obtain⟨_,z2,_,_,_⟩:=(HY.out.below b1).below b2;obtain⟨y1,y2,y3,y4,_⟩:=(HR.out.below b1).below b2))
 go_wp2;obtain⟨e1,e2,_,_,_⟩:=(((HR.out.below b1).below b2).set (.bool s2) (.slice A2 r2.length c2));refine bodyPost_ret (v:=.agg #[.bool s2,.slice A2 r2.length c2]) (by simp[results,Tryz.results61,go_sem,e1,e2]) rfl ?_;refine RetI.box (by omega) ((HR.out.below b1).below b2) q2 k2 (v2.trans ?_) ((HB.out.trans (b1.mono HB.out.size)).trans (b2.mono (HB.out.trans (b1.mono HB.out.size)).size));unfold ival;rw[v1];cases s <;> simp <;> omega
theorem znY (s:Bool)(A B:Option Addr)(c d:Nat)(xs ys:List Nat)(w:World)(h:Us w A c xs)(k:Us w B d ys)(hl:xs.length≤60000)(kl:ys.length≤60000)(hle:val ys≤val xs) :
  Calls Tryz.prog 61 #[.agg #[.bool s,.slice A xs.length c],.agg #[.bool (!s),.slice B ys.length d]] w (RetI (ival s xs+ival (!s) ys) w):=by
 have hcap:=h.cap;have kcap:=k.cap;obtain⟨hX,hY,hR,hB⟩:=box3 w (.bool s) (.slice A xs.length c) (.bool (!s)) (.slice B ys.length d) (.bool false) (.slice none 0 0) 69;have HX:=Hh hX;have HY:=Hh hY;have HR:=Hh hR;have HB:=Hh (hB);have H1:=Hh (h.below HB.out);have H2:=Hh (k.below HB.out);have hd:=h.1;have kd:=k.1;clear h k hX hY hR hB;have n1:¬ w.heap.size=w.heap.size+1+1:=by omega
 have n2:¬ w.heap.size+1+1=w.heap.size:=by omega
 have HL:=Hh hle;clear hle;have hst:(s == !s)=false:=by cases s <;> rfl
 go_enter Tryz.func61,Tryz.ntmps61;go_wp2_with (first
  | (go_at_call_of 87 (Value.slice A xs.length c);go_loud (refine(ziV _ _ _ _ xs ys _ H1.out H2.out (by omega) (by omega)).mono ?_;intro e w1 h;obtain⟨A1,c1,r1,rfl,q1,k1,v1,b1⟩:=h.2 HL.out;clear h;obtain⟨x1,x2,_,_,_⟩:=HX.out.below b1;obtain⟨z1,z2,_,_,_⟩:=HY.out.below b1;have l1:=zga hd hl k1 v1;have HV:=Hh v1;clear v1))
  | (go_at_call 82;go_loud (refine(zco s _ _ r1 _ q1 (by omega)).mono ?_;rintro e w2 ⟨A2,c2,s2,r2,rfl,q2,k2,v2,b2⟩;obtain⟨y1,y2,y3,y4,_⟩:=(HR.out.below b1).below b2;have HV2:=Hh v2;clear v2)))
 obtain⟨e1,e2,_,_,_⟩:=(((HR.out.below b1).below b2).set (.bool s2) (.slice A2 r2.length c2));refine bodyPost_ret (v:=.agg #[.bool s2,.slice A2 r2.length c2]) (by simp[results,Tryz.results61,go_sem,e1,e2]) rfl ?_;refine RetI.box (by omega) ((HR.out.below b1).below b2) q2 k2 (HV2.out.trans ?_) ((HB.out.trans (b1.mono HB.out.size)).trans (b2.mono (HB.out.trans (b1.mono HB.out.size)).size));have hle:=HL.out;unfold ival;rw[HV.out];cases s <;> simp <;> omega
theorem znZ (s:Bool)(A B:Option Addr)(c d:Nat)(xs ys:List Nat)(w:World)(h:Us w A c xs)(k:Us w B d ys)(hl:xs.length≤60000)(kl:ys.length≤60000)(hle:val xs<val ys) :
  Calls Tryz.prog 61 #[.agg #[.bool s,.slice A xs.length c],.agg #[.bool (!s),.slice B ys.length d]] w (RetI (ival s xs+ival (!s) ys) w):=by
 have hcap:=h.cap;have kcap:=k.cap;obtain⟨hX,hY,hR,hB⟩:=box3 w (.bool s) (.slice A xs.length c) (.bool (!s)) (.slice B ys.length d) (.bool false) (.slice none 0 0) 69;have HX:=Hh hX;have HY:=Hh hY;have HR:=Hh hR;have HB:=Hh (hB);have H1:=Hh (h.below HB.out);have H2:=Hh (k.below HB.out);have hd:=h.1;have kd:=k.1;clear h k hX hY hR hB;have n1:¬ w.heap.size=w.heap.size+1+1:=by omega
 have n2:¬ w.heap.size+1+1=w.heap.size:=by omega
 have HL:=Hh hle;clear hle;have hst:(s == !s)=false:=by cases s <;> rfl
 have tok0:True:=trivial;go_enter Tryz.func61,Tryz.ntmps61;go_wp2_with (first
  | (go_at_call 87;have _t:=tok0;refine(ziV A B _ _ xs ys _ H1.out H2.out (by omega) (by omega)).mono ?_;intro e w1 h;obtain⟨rfl,b1⟩:=h.1 HL.out;clear h tok0 _t;obtain⟨x1,x2,_,_,_⟩:=HX.out.below b1;obtain⟨z1,z2,_,_,_⟩:=HY.out.below b1)
  | (go_at_call 87;go_loud (refine(ziV B A _ _ ys xs _ (H2.out.below b1) (H1.out.below b1) (by omega) (by omega)).mono ?_;intro e w3 h;obtain⟨A1,c1,r1,rfl,q1,k1,v1,b3⟩:=h.2 (Nat.le_of_lt HL.out);clear h x1 x2 z1 z2;obtain⟨x1,x2,_,_,_⟩:=(HX.out.below b1).below b3;obtain⟨z1,z2,_,_,_⟩:=(HY.out.below b1).below b3;have l1:=zga kd kl k1 v1;have HV:=Hh v1;clear v1))
  | (go_at_call 82;go_loud (refine(zco (!s) _ _ r1 _ q1 (by omega)).mono ?_;rintro e w2 ⟨A2,c2,s2,r2,rfl,q2,k2,v2,b2⟩;obtain⟨y1,y2,y3,y4,_⟩:=((HR.out.below b1).below b3).below b2;have HV2:=Hh v2;clear v2)))
 obtain⟨e1,e2,_,_,_⟩:=((((HR.out.below b1).below b3).below b2).set (.bool s2) (.slice A2 r2.length c2));refine bodyPost_ret (v:=.agg #[.bool s2,.slice A2 r2.length c2]) (by simp[results,Tryz.results61,go_sem,e1,e2]) rfl ?_;have hb1:=HB.out.trans (b1.mono HB.out.size);have hb3:=hb1.trans (b3.mono hb1.size);refine RetI.box (by omega) (((HR.out.below b1).below b3).below b2) q2 k2 (HV2.out.trans ?_) (hb3.trans (b2.mono hb3.size));have hle:=HL.out;unfold ival;rw[HV.out];cases s <;> simp <;> omega
theorem zaG (s t:Bool)(A B:Option Addr)(c d:Nat)(xs ys:List Nat)(w:World)(h:Us w A c xs)(k:Us w B d ys)(hl:xs.length≤60000)(kl:ys.length≤60000) :
  Calls Tryz.prog 61 #[.agg #[.bool s,.slice A xs.length c],.agg #[.bool t,.slice B ys.length d]] w (RetI (ival s xs+ival t ys) w):=by
 by_cases hst:s=t
 ·subst hst;exact znX s A B c d xs ys w h k hl kl
 ·obtain rfl:t = !s:=by cases s <;> cases t <;> simp_all
  rcases Nat.lt_or_ge (val xs) (val ys) with hlt|hge
  ·exact znZ s A B c d xs ys w h k hl kl hlt
  ·exact znY s A B c d xs ys w h k hl kl hge
theorem zsP (W:World)(u v:Int)(U V:Nat)(t:TypeId)(hu:u=(U:Int))(hv:v=(V:Int))(lu:U<4294967296)(lv:V<4294967296) :
  Us (W.alloc (.cells #[.int .u32 u,.int .u32 v] t)) (some ⟨W.heap.size,0,none⟩) 2 [U,V]:=by
 subst hu hv;exact zvN W U V t lu lv
theorem zgb (w:World)(o:Obj)(u v:Int)(U V:Nat)(t:TypeId)(hu:u=(U:Int))(hv:v=(V:Int))(lu:U<4294967296)(lv:V<4294967296) :
  Us ((w.alloc o).alloc (.cells #[.int .u32 u,.int .u32 v] t)) (some ⟨w.heap.size+1,0,none⟩) 2 [U,V]:=by
 have h:=zsP (w.alloc o) u v U V t hu hv lu lv;have e:(w.alloc o).heap.size=w.heap.size+1:=by simp
 rw[e] at h;exact h
theorem zgc (n:Int)(h0 : -9223372036854775808≤n)(h1:n<0):IntKind.u64.wrap (-IntKind.u64.wrap n) = -n:=by
 simp[IntKind.wrap,IntKind.bits,IntKind.signed];omega
theorem zlD (n:Int)(m:Nat)(h0 : -9223372036854775808≤n)(h1:n<0)(hm:m=n.natAbs):IntKind.u64.wrap (-IntKind.u64.wrap n)%4294967296=((m%4294967296:Nat):Int):=by
 rw[zgc n h0 h1];omega
theorem zlE (n:Int)(m:Nat)(h0 : -9223372036854775808≤n)(h1:n<0)(hm:m=n.natAbs):IntKind.u64.wrap (-IntKind.u64.wrap n) / 4294967296%4294967296=((m / 4294967296:Nat):Int):=by
 rw[zgc n h0 h1];omega
theorem zkh (n:Int)(m:Nat)(h0 : -9223372036854775808≤n)(h1:n<0)(hm:m=n.natAbs):(IntKind.u64.wrap (-IntKind.u64.wrap n)).tmod 4294967296%4294967296=((m%4294967296:Nat):Int):=by
 rw[zgc n h0 h1,Int.tmod_eq_emod_of_nonneg (by omega)];omega
theorem zki (n:Int)(m:Nat)(h0 : -9223372036854775808≤n)(h1:n<0)(hm:m=n.natAbs):IntKind.u64.wrap ((IntKind.u64.wrap (-IntKind.u64.wrap n)).tdiv 4294967296)%4294967296=((m / 4294967296:Nat):Int):=by
 rw[zgc n h0 h1,Int.tdiv_eq_ediv_of_nonneg (by omega),IntWalk.u64_in _ (by omega)];omega
theorem zvP (m:Nat):val [m%4294967296,m / 4294967296]=m:=by
 simp only[val];omega
theorem zgd {n:Int}{m:Nat}{r:List Nat}(hm:m=n.natAbs)(h:val r=val [m%4294967296,m / 4294967296]):ival (decide (n<0)) r=n:=by
 rw[zvP] at h;unfold ival;rw[h];by_cases hn:n<0 <;> simp[hn] <;> omega
theorem zgK (n:Int)(w:World)(h0 : -9223372036854775808≤n)(h1:n≤9223372036854775807) :
  Calls Tryz.prog 137 #[.int .i64 n] w (RetI n w):=by
 obtain⟨m,hm⟩:∃m,m=n.natAbs:=⟨_,rfl⟩;have lu:m%4294967296<4294967296:=Nat.mod_lt _ (by decide);have lv:m / 4294967296<4294967296:=by omega
 obtain⟨hR,hB⟩:=box1 w (.bool false) (.slice none 0 0) 69;have HR:=Hh hR;have HB:=Hh hB;have HM:=Hh hm;clear hR hB;by_cases hn:0≤n
 ·have HL:=Hh (show n%4294967296=((m%4294967296:Nat):Int) by omega);have HH:=Hh (show n / 4294967296=((m / 4294967296:Nat):Int) by omega);clear hm lu lv;have HU:=Hh (zgb w (.cells #[.bool false,.slice none 0 0] 69) _ _ _ _ 136 HL.out HH.out (Nat.mod_lt _ (by decide)) (by have:=HM.out;omega));clear HL HH;go_enter Tryz.func137,Tryz.ntmps137;go_wp2_with (first
   | (go_at_call 171;go_loud (refine(ziS _ _ [m%4294967296,m / 4294967296] _ HU.out (by simp)).mono ?_;rintro e w1 ⟨A1,c1,r1,rfl,q1,k1,v1,b1⟩;obtain⟨x1,x2,x3,x4,_⟩:=(HR.out.alloc _).below b1;have HV:=Hh v1;clear v1))
   | (go_at_call 170;refine(zbJ _ _ _ r1 _ q1 k1).mono ?_;rintro e w2 ⟨A2,c2,s2,r2,rfl,q2,k2,v2,b2⟩;obtain⟨y1,y2,y3,y4,_⟩:=((HR.out.alloc _).below b1).below b2;have HV2:=Hh v2;clear v2))
  obtain⟨e1,e2,_,_,_⟩:=((((HR.out.alloc _).below b1).below b2).set (.bool s2) (.slice A2 r2.length c2));refine bodyPost_ret (v:=.agg #[.bool s2,.slice A2 r2.length c2]) (by simp[results,Tryz.results137,go_sem,e1,e2]) rfl ?_;have hb1:=(HB.out.alloc (by simp) _).trans (b1.mono (by simp <;> omega));exact RetI.box (by omega) (((HR.out.alloc _).below b1).below b2) q2 k2 (HV2.out.trans (zgd HM.out HV.out)) (hb1.trans (b2.mono hb1.size))
 ·have HL:=Hh (zlD n m h0 (by omega) hm);have HH:=Hh (zlE n m h0 (by omega) hm);clear hm lu lv;have HU:=Hh (zgb w (.cells #[.bool false,.slice none 0 0] 69) _ _ _ _ 136 HL.out HH.out (Nat.mod_lt _ (by decide)) (by have:=HM.out;omega));clear HL HH;go_enter Tryz.func137,Tryz.ntmps137;go_wp2_with (first
   | (go_at_call 171;go_loud (refine(ziS _ _ [m%4294967296,m / 4294967296] _ HU.out (by simp)).mono ?_;rintro e w1 ⟨A1,c1,r1,rfl,q1,k1,v1,b1⟩;obtain⟨x1,x2,x3,x4,_⟩:=(HR.out.alloc _).below b1;have HV:=Hh v1;clear v1))
   | (go_at_call 170;refine(zbJ true _ _ r1 _ q1 k1).mono ?_;rintro e w2 ⟨A2,c2,s2,r2,rfl,q2,k2,v2,b2⟩;obtain⟨y1,y2,y3,y4,_⟩:=((HR.out.alloc _).below b1).below b2;have HV2:=Hh v2;clear v2))
  obtain⟨e1,e2,_,_,_⟩:=((((HR.out.alloc _).below b1).below b2).set (.bool s2) (.slice A2 r2.length c2));refine bodyPost_ret (v:=.agg #[.bool s2,.slice A2 r2.length c2]) (by simp[results,Tryz.results137,go_sem,e1,e2]) rfl ?_;have hb1:=(HB.out.alloc (by simp) _).trans (b1.mono (by simp <;> omega));have hi:=zgd HM.out HV.out;rw[decide_eq_true (by omega)] at hi;exact RetI.box (by omega) (((HR.out.alloc _).below b1).below b2) q2 k2 (HV2.out.trans hi) (hb1.trans (b2.mono hb1.size))
theorem zdV (n:Int)(w:World)(h0 : -9223372036854775808≤n)(h1:n≤9223372036854775807) :
  Calls Tryz.prog 56 #[.int .i64 n] w (RetI n w):=by
 obtain⟨m,hm⟩:∃m,m=n.natAbs:=⟨_,rfl⟩;obtain⟨hR,hB⟩:=box1 w (.bool false) (.slice none 0 0) 69;have HR:=Hh hR;have HB:=Hh hB;have HM:=Hh hm;clear hR hB;by_cases hn:0≤n
 ·have HL:=Hh (show n%4294967296=((m%4294967296:Nat):Int) by omega);have HH:=Hh (show n / 4294967296=((m / 4294967296:Nat):Int) by omega);clear hm;have HU:=Hh (zgb w (.cells #[.bool false,.slice none 0 0] 69) _ _ _ _ 136 HL.out HH.out (Nat.mod_lt _ (by decide)) (by have:=HM.out;omega));clear HL HH;go_enter Tryz.func56,Tryz.ntmps56;go_wp2_with (go_at_call 82;refine(zco _ _ _ [m%4294967296,m / 4294967296] _ HU.out (by simp)).mono ?_;rintro e w2 ⟨A2,c2,s2,r2,rfl,q2,k2,v2,b2⟩;obtain⟨y1,y2,y3,y4,_⟩:=(HR.out.alloc _).below b2;have HV2:=Hh v2;clear v2);obtain⟨e1,e2,_,_,_⟩:=(((HR.out.alloc _).below b2).set (.bool s2) (.slice A2 r2.length c2));refine bodyPost_ret (v:=.agg #[.bool s2,.slice A2 r2.length c2]) (by simp[results,Tryz.results56,go_sem,e1,e2]) rfl ?_;exact RetI.box (by omega) ((HR.out.alloc _).below b2) q2 k2 (HV2.out.trans (zgd HM.out rfl)) ((HB.out.alloc (by simp) _).trans (b2.mono (by simp <;> omega)))
 ·have HL:=Hh (zkh n m h0 (by omega) hm);have HH:=Hh (zki n m h0 (by omega) hm);clear hm;have HU:=Hh (zgb w (.cells #[.bool false,.slice none 0 0] 69) _ _ _ _ 136 HL.out HH.out (Nat.mod_lt _ (by decide)) (by have:=HM.out;omega));clear HL HH;go_enter Tryz.func56,Tryz.ntmps56;go_wp2_with (go_at_call 82;refine(zco true _ _ [m%4294967296,m / 4294967296] _ HU.out (by simp)).mono ?_;rintro e w2 ⟨A2,c2,s2,r2,rfl,q2,k2,v2,b2⟩;obtain⟨y1,y2,y3,y4,_⟩:=(HR.out.alloc _).below b2;have HV2:=Hh v2;clear v2);obtain⟨e1,e2,_,_,_⟩:=(((HR.out.alloc _).below b2).set (.bool s2) (.slice A2 r2.length c2));refine bodyPost_ret (v:=.agg #[.bool s2,.slice A2 r2.length c2]) (by simp[results,Tryz.results56,go_sem,e1,e2]) rfl ?_;have hi:=zgd (n:=n) HM.out rfl;rw[decide_eq_true (by omega)] at hi;exact RetI.box (by omega) ((HR.out.alloc _).below b2) q2 k2 (HV2.out.trans hi) ((HB.out.alloc (by simp) _).trans (b2.mono (by simp <;> omega)))
theorem zeJ (s:Bool)(r:List Nat):val r=(ival s r).natAbs:=by
 unfold ival;cases s <;> simp
theorem zcz {s:Bool}{r:List Nat}{n:Int}(hc:zaC s r)(hv:ival s r=n)(k:Nat)(hn:n.natAbs<4294967296^k):r.length≤k :=
 zmL hc.1 (by rw[zeJ s r,hv];exact hn)
theorem zdW {s:Bool}{xs:List Nat}(hd:Dig xs){k:Nat}(hl:xs.length≤k):(ival s xs).natAbs<4294967296^k:=by
 rw[←zeJ];exact Nat.lt_of_lt_of_le (zcl hd) (Nat.pow_le_pow_right (by decide) hl)
theorem zvQ {a b:Int}{k:Nat}(ha:a.natAbs<4294967296^k)(hb:b.natAbs<4294967296^k):(a+b).natAbs<4294967296^(k+1):=by
 rw[Nat.pow_succ];omega
theorem zpO {s t:Bool}{r ys:List Nat}(kd:Dig ys)(hc:zaC s r)(hv:ival s r = -ival t ys):r.length≤ys.length :=
 zcz hc hv _ (by rw[Int.natAbs_neg,←zeJ];exact zcl kd)
theorem zcH {k:IntKind}{a b:Int}(h:a=b):Ending.returned (.int k a)=.returned (.int k b):=by rw[h]
def ordI (a b:Int):Int:=if a<b then -1 else if a=b then 0 else 1
theorem zmY (s t:Bool)(A B:Option Addr)(c d:Nat)(xs ys:List Nat)(w:World)(h:Us w A c xs)(k:Us w B d ys)(hl:xs.length≤60000)(kl:ys.length≤60000) :
  Calls Tryz.prog 184 #[.agg #[.bool s,.slice A xs.length c],.agg #[.bool t,.slice B ys.length d]] w (RetI (ival s xs-ival t ys) w):=by
 have hcap:=h.cap;have kcap:=k.cap;obtain⟨hX,hY,hR,hB⟩:=box3 w (.bool s) (.slice A xs.length c) (.bool t) (.slice B ys.length d) (.bool false) (.slice none 0 0) 69;have HX:=Hh hX.drew;have HY:=Hh hY.drew;have HR:=Hh hR.drew;have HB:=Hh (Below.drew' hB);have H1:=Hh (h.below HB.out);have H2:=Hh (k.below HB.out);have kd:=k.1;clear h k hX hY hR hB;have n1:¬ w.heap.size=w.heap.size+1+1:=by omega
 have n2:¬ w.heap.size+1+1=w.heap.size:=by omega
 go_enter Tryz.func184,Tryz.ntmps184;go_wp2_with fail;go_region_held3 (fun w'=>w'.cell? ⟨w.heap.size,0,none⟩=some (.bool s)∧w'.cell? ⟨w.heap.size,1,none⟩=some (.slice A xs.length c)∧w'.cell? ⟨w.heap.size+1,0,none⟩=some (.bool t)∧w'.cell? ⟨w.heap.size+1,1,none⟩=some (.slice B ys.length d))
  (first|go_keep|fail)
  (first
   | (go_at_call 172;refine(zkg t _ _ ys _ H2.out (by omega)).mono ?_;rintro e w1 ⟨A1,c1,s1,r1,rfl,q1,k1,v1,b1⟩;obtain⟨x1,x2,_,_,_⟩:=HX.out.below b1;obtain⟨z1,z2,_,_,_⟩:=HY.out.below b1;have l1:r1.length≤60000:=Nat.le_trans (zpO kd k1 v1) kl)
   | (go_at_call 141;refine(zeI s s1 _ _ _ _ xs r1 _ (H1.out.below b1) q1 hl l1).mono ?_;rintro e w2 ⟨A2,c2,s2,r2,rfl,q2,k2,v2,b2⟩;obtain⟨x1,x2,_,_,_⟩:=(HX.out.below b1).below b2;obtain⟨z1,z2,_,_,_⟩:=(HY.out.below b1).below b2;obtain⟨y1,y2,y3,y4,_⟩:=(HR.out.below b1).below b2))
 go_wp2;obtain⟨e1,e2,_,_,_⟩:=(((HR.out.below b1).below b2).set (.bool s2) (.slice A2 r2.length c2));refine bodyPost_ret (v:=.agg #[.bool s2,.slice A2 r2.length c2]) (by simp[results,Tryz.results184,go_sem,e1,e2]) rfl ?_;exact RetI.box (by omega) ((HR.out.below b1).below b2) q2 k2 (by rw[v2,v1,Int.sub_eq_add_neg]) ((HB.out.trans (b1.mono HB.out.size)).trans (b2.mono (HB.out.trans (b1.mono HB.out.size)).size))
theorem zcp (s t:Bool)(A B:Option Addr)(c d:Nat)(xs ys:List Nat)(w:World)(h:Us w A c xs)(k:Us w B d ys)(hl:xs.length≤60000)(kl:ys.length≤60000) :
  Calls Tryz.prog 81 #[.agg #[.bool s,.slice A xs.length c],.agg #[.bool t,.slice B ys.length d]] w (RetI (ival s xs-ival t ys) w):=by
 have hcap:=h.cap;have kcap:=k.cap;obtain⟨hX,hY,hR,hB⟩:=box3 w (.bool s) (.slice A xs.length c) (.bool t) (.slice B ys.length d) (.bool false) (.slice none 0 0) 69;have HX:=Hh hX.drew;have HY:=Hh hY.drew;have HR:=Hh hR.drew;have HB:=Hh (Below.drew' hB);have H1:=Hh (h.below HB.out);have H2:=Hh (k.below HB.out);have kd:=k.1;clear h k hX hY hR hB;have n1:¬ w.heap.size=w.heap.size+1+1:=by omega
 have n2:¬ w.heap.size+1+1=w.heap.size:=by omega
 go_enter Tryz.func81,Tryz.ntmps81;go_wp2_with fail;go_region_held3 (fun w'=>w'.cell? ⟨w.heap.size,0,none⟩=some (.bool s)∧w'.cell? ⟨w.heap.size,1,none⟩=some (.slice A xs.length c)∧w'.cell? ⟨w.heap.size+1,0,none⟩=some (.bool t)∧w'.cell? ⟨w.heap.size+1,1,none⟩=some (.slice B ys.length d))
  (first|go_keep|fail)
  (first
   | (go_at_call 75;refine(zfp t _ _ ys _ H2.out (by omega)).mono ?_;rintro e w1 ⟨A1,c1,s1,r1,rfl,q1,k1,v1,b1⟩;obtain⟨x1,x2,_,_,_⟩:=HX.out.below b1;obtain⟨z1,z2,_,_,_⟩:=HY.out.below b1;have l1:r1.length≤60000:=Nat.le_trans (zpO kd k1 v1) kl)
   | (go_at_call 61;refine(zaG s s1 _ _ _ _ xs r1 _ (H1.out.below b1) q1 hl l1).mono ?_;rintro e w2 ⟨A2,c2,s2,r2,rfl,q2,k2,v2,b2⟩;obtain⟨x1,x2,_,_,_⟩:=(HX.out.below b1).below b2;obtain⟨z1,z2,_,_,_⟩:=(HY.out.below b1).below b2;obtain⟨y1,y2,y3,y4,_⟩:=(HR.out.below b1).below b2))
 go_wp2;obtain⟨e1,e2,_,_,_⟩:=(((HR.out.below b1).below b2).set (.bool s2) (.slice A2 r2.length c2));refine bodyPost_ret (v:=.agg #[.bool s2,.slice A2 r2.length c2]) (by simp[results,Tryz.results81,go_sem,e1,e2]) rfl ?_;exact RetI.box (by omega) ((HR.out.below b1).below b2) q2 k2 (by rw[v2,v1,Int.sub_eq_add_neg]) ((HB.out.trans (b1.mono HB.out.size)).trans (b2.mono (HB.out.trans (b1.mono HB.out.size)).size))
theorem ziX (n:Int)(w:World) :
  Calls Tryz.prog 140 #[.int .i64 n] w (RetI (shlI 1 n) w):=by
 obtain⟨hR,hB⟩:=box1 w (.bool false) (.slice none 0 0) 69;have HR:=Hh hR;have HB:=Hh hB;clear hR hB;go_enter Tryz.func140,Tryz.ntmps140;go_wp2_with (first
  | (go_at_call 137;refine(zgK 1 _ (by decide) (by decide)).mono ?_;rintro e w1 ⟨A1,c1,s1,r1,rfl,q1,k1,v1,b1⟩;have l1:r1.length≤1:=zcz k1 v1 1 (by decide);have HV:=Hh v1;clear v1)
  | (go_at_call 139;refine(ziW s1 _ _ r1 n _ q1 (by omega)).mono ?_;rintro e w2 ⟨A2,c2,s2,r2,rfl,q2,k2,v2,b2⟩;obtain⟨y1,y2,y3,y4,_⟩:=(HR.out.below b1).below b2;have HV2:=Hh v2;clear v2))
 obtain⟨e1,e2,_,_,_⟩:=(((HR.out.below b1).below b2).set (.bool s2) (.slice A2 r2.length c2));refine bodyPost_ret (v:=.agg #[.bool s2,.slice A2 r2.length c2]) (by simp[results,Tryz.results140,go_sem,e1,e2]) rfl ?_;exact RetI.box (by omega) ((HR.out.below b1).below b2) q2 k2 (by rw[HV2.out,HV.out]) ((HB.out.trans (b1.mono HB.out.size)).trans (b2.mono (HB.out.trans (b1.mono HB.out.size)).size))
theorem zbC (n:Int)(w:World) :
  Calls Tryz.prog 76 #[.int .i64 n] w (RetI (shlI 1 n) w):=by
 obtain⟨hR,hB⟩:=box1 w (.bool false) (.slice none 0 0) 69;have HR:=Hh hR;have HB:=Hh hB;clear hR hB;go_enter Tryz.func76,Tryz.ntmps76;go_wp2_with (first
  | (go_at_call 56;refine(zdV 1 _ (by decide) (by decide)).mono ?_;rintro e w1 ⟨A1,c1,s1,r1,rfl,q1,k1,v1,b1⟩;have l1:r1.length≤1:=zcz k1 v1 1 (by decide);have HV:=Hh v1;clear v1)
  | (go_at_call 109;refine(zpJ s1 _ _ r1 n _ q1 (by omega)).mono ?_;rintro e w2 ⟨A2,c2,s2,r2,rfl,q2,k2,v2,b2⟩;obtain⟨y1,y2,y3,y4,_⟩:=(HR.out.below b1).below b2;have HV2:=Hh v2;clear v2))
 obtain⟨e1,e2,_,_,_⟩:=(((HR.out.below b1).below b2).set (.bool s2) (.slice A2 r2.length c2));refine bodyPost_ret (v:=.agg #[.bool s2,.slice A2 r2.length c2]) (by simp[results,Tryz.results76,go_sem,e1,e2]) rfl ?_;exact RetI.box (by omega) ((HR.out.below b1).below b2) q2 k2 (by rw[HV2.out,HV.out]) ((HB.out.trans (b1.mono HB.out.size)).trans (b2.mono (HB.out.trans (b1.mono HB.out.size)).size))
theorem zpP {s:Bool}{r:List Nat}{a b:Int}(hc:zaC s r)(hv:ival s r=a-b) :
  (r.length=0→ordI a b=0)∧(r.length≠0→s=true→ordI a b = -1)∧(r.length≠0→s=false→ordI a b=1):=by
 refine⟨fun h=>?_,fun h hs=>?_,fun h hs=>?_⟩
 ·obtain rfl:=List.eq_nil_of_length_eq_zero h;rw[zfZ] at hv;unfold ordI;rw[if_neg (by omega),if_pos (by omega)]
 ·subst hs;have:val r≠0:=fun e=>hc.2 rfl (zbw hc.1 e);unfold ival at hv;simp only[if_true] at hv;unfold ordI;rw[if_pos (by omega)]
 ·subst hs;have:val r≠0:=fun e=>h (by rw[zbw hc.1 e];rfl);unfold ival at hv;simp only[Bool.false_eq_true,if_false] at hv;unfold ordI;rw[if_neg (by omega),if_neg (by omega)]
theorem zva {xs ys:List Nat}:cmpN (val ys) (val xs)=ordI (ival true xs) (ival true ys):=by
 unfold cmpN ordI ival;simp only[if_true];split <;> split <;> (try split) <;> (try split) <;> omega
theorem zvb {xs ys:List Nat}:cmpN (val xs) (val ys)=ordI (ival false xs) (ival false ys):=by
 unfold cmpN ordI ival;simp only[Bool.false_eq_true,if_false];split <;> split <;> (try split) <;> (try split) <;> omega
theorem zeK (s t:Bool)(A B:Option Addr)(c d:Nat)(xs ys:List Nat)(w:World)(h:Us w A c xs)(k:Us w B d ys)(hl:xs.length≤60000)(kl:ys.length≤60000)(hc:zaC s xs)(kc:zaC t ys) :
  Calls Tryz.prog 148 #[.agg #[.bool s,.slice A xs.length c],.agg #[.bool t,.slice B ys.length d]] w fun e w'=>e=.returned (.int .i64 (ordI (ival s xs) (ival t ys)))∧Below w.heap.size w w':=by
 have hcap:=h.cap;have kcap:=k.cap;obtain⟨hX,hY,hB⟩:=box2 w (.bool s) (.slice A xs.length c) (.bool t) (.slice B ys.length d) 69;have HB:=Hh hB;have H1:=Hh (h.below HB.out);have H2:=Hh (k.below HB.out);obtain⟨z,hz⟩:∃z,z=ordI (ival s xs) (ival t ys):=⟨_,rfl⟩;rw[←hz];have HZ:=Hh hz;clear h k hX hY hB hz;cases s <;> cases t
 ·go_enter Tryz.func148,Tryz.ntmps148;go_wp2_with (go_at_call 182;refine(zly _ _ _ _ xs ys _ H1.out H2.out (by omega) (by omega)).mono ?_;rintro e w1 ⟨rfl,b⟩;rw[zvb,←HZ.out]);go_ret;exact⟨rfl,HB.out.trans (b.mono HB.out.size)⟩
 ·go_enter Tryz.func148,Tryz.ntmps148;go_wp2_with fail;go_ret;refine⟨zcH ?_,HB.out⟩;rw[HZ.out];have:=kc.2 rfl;have h2:val ys≠0:=fun e=>this (zbw kc.1 e);unfold ordI ival;simp only[if_true,Bool.false_eq_true,if_false];rw[if_neg (by omega),if_neg (by omega)]
 ·go_enter Tryz.func148,Tryz.ntmps148;go_wp2_with fail;go_ret;refine⟨zcH ?_,HB.out⟩;rw[HZ.out];have:=hc.2 rfl;have h2:val xs≠0:=fun e=>this (zbw hc.1 e);unfold ordI ival;simp only[if_true,Bool.false_eq_true,if_false];rw[if_pos (by omega)]
 ·go_enter Tryz.func148,Tryz.ntmps148;go_wp2_with (go_at_call 182;refine(zly _ _ _ _ ys xs _ H2.out H1.out (by omega) (by omega)).mono ?_;rintro e w1 ⟨rfl,b⟩;rw[zva,←HZ.out]);go_ret;exact⟨rfl,HB.out.trans (b.mono HB.out.size)⟩
theorem zaD (s t:Bool)(A B:Option Addr)(c d:Nat)(xs ys:List Nat)(w:World)(h:Us w A c xs)(k:Us w B d ys)(hl:xs.length≤60000)(kl:ys.length≤60000) :
  Calls Tryz.prog 55 #[.agg #[.bool s,.slice A xs.length c],.agg #[.bool t,.slice B ys.length d]] w fun e w'=>e=.returned (.int .i64 (ordI (ival s xs) (ival t ys)))∧Below w.heap.size w w':=by
 have hcap:=h.cap;have kcap:=k.cap;obtain⟨hX,hY,hB⟩:=box2 w (.bool s) (.slice A xs.length c) (.bool t) (.slice B ys.length d) 69;have HB:=Hh hB;have H1:=Hh (h.below HB.out);have H2:=Hh (k.below HB.out);obtain⟨z,hz⟩:∃z,z=ordI (ival s xs) (ival t ys):=⟨_,rfl⟩;rw[←hz];have HZ:=Hh hz;clear h k hX hY hB hz;go_enter Tryz.func55,Tryz.ntmps55;go_wp2_with (go_at_call 81;refine(zcp s t _ _ _ _ xs ys _ H1.out H2.out hl kl).mono ?_;rintro e w1 ⟨A1,c1,s1,r1,rfl,q1,k1,v1,b1⟩;have HV:=Hh v1;have rcap:=q1.cap;clear v1)
 ·go_ret;have h0:((r1.length:Int)==0)=true:=by assumption
  exact⟨zcH (by rw[HZ.out];exact((zpP k1 HV.out).1 (by rw[beq_iff_eq] at h0;omega)).symm),(HB.out.trans (b1.mono HB.out.size)).alloc (Nat.le_trans HB.out.size b1.size) _⟩
 ·go_ret;have h0:((r1.length:Int)==0)=false:=by assumption
  have h1:s1=true:=by assumption
  exact⟨zcH (by rw[HZ.out];exact((zpP k1 HV.out).2.1 (by rw[beq_eq_false_iff_ne] at h0;omega) h1).symm),(HB.out.trans (b1.mono HB.out.size)).alloc (Nat.le_trans HB.out.size b1.size) _⟩
 ·go_ret;have h0:((r1.length:Int)==0)=false:=by assumption
  have h1:s1=false:=by assumption
  exact⟨zcH (by rw[HZ.out];exact((zpP k1 HV.out).2.2 (by rw[beq_eq_false_iff_ne] at h0;omega) h1).symm),(HB.out.trans (b1.mono HB.out.size)).alloc (Nat.le_trans HB.out.size b1.size) _⟩
def zbg (s:Bool)(xs:List Nat):Bool:=zib xs&&(!s||decide (0<xs.length))
theorem zay (s:Bool)(A:Option Addr)(c:Nat)(xs:List Nat)(w:World)(h:Us w A c xs)(hl:xs.length≤60000) :
  Calls Tryz.prog 98 #[.agg #[.bool s,.slice A xs.length c]] w fun e w'=>e=.returned (.bool (zbg s xs))∧Below w.heap.size w w':=by
 have hcap:=h.cap;obtain⟨hX,hB⟩:=box1 w (.bool s) (.slice A xs.length c) 69;have HB:=Hh hB;have H1:=Hh (h.below HB.out);obtain⟨b,hb⟩:∃b,b=zib xs:=⟨_,rfl⟩;unfold zbg;rw[←hb];have HR:=Hh hb;clear h hX hB hb;cases b <;> cases s
 all_goals
  go_enter Tryz.func98,Tryz.ntmps98;go_wp2_with (go_at_call 132;refine(zpv _ _ xs _ H1.out (by omega)).mono ?_;rintro e w' ⟨rfl,rfl⟩;rw[←HR.out]);go_ret;exact⟨by simp,HB.out⟩
end Go.Proofs.YtbabbmdpgpcgjaaGreatDoor

namespace Go.Proofs.YtbabbmdpgpcgjaaGreatDoor.Nds
theorem zdX {x:Nd}{p q:Int→Bool}(h:∀i,i<4→p (x.kid i)=q (x.kid i)):x.each p=x.each q:=by
 have h0:p x.a=q x.a:=h 0 (by omega);have h1:p x.b=q x.b:=h 1 (by omega);have h2:p x.c=q x.c:=h 2 (by omega);have h3:p x.d=q x.d:=h 3 (by omega);unfold Nd.each;rw[h0,h1,h2,h3]
theorem zvR {x:Nd}{p:Int→Bool}{i:Nat}(hi:i<4)(h:p (x.kid i)=false):x.each p=false:=by
 cases hq:x.each p
 ·rfl
 ·have:=zbM.1 hq i hi;rw[h] at this;cases this
def zeu (es:List Bool)(x:Nd):Bool:=x.each fun c=>c==0||(decide (1<x.lv)&&es.getD c.toNat false)
def emps (l:List Nd):List Bool:=l.foldl (fun es x=>es++[zeu es x]) [true]
def empB (l:List Nd)(n:Nat):Bool:=(emps l).getD n false
def zbk (l:List Nd)(x:Nd):Bool:=zeu (emps l) x
theorem zdz (l:List Nd)(x:Nd):emps (l++[x])=emps l++[zeu (emps l) x]:=by
 unfold emps;rw[List.foldl_append];rfl
theorem ziY (l:List Nd):(emps l).length=l.length+1:=by
 suffices h:∀k,k≤l.length→(emps (l.take k)).length=k+1 by
  have:=h l.length (Nat.le_refl _)
  rwa [List.take_of_length_le (Nat.le_refl _)] at this
 intro k
 induction k with
 | zero=>intro _;rfl
 | succ k ih =>
  intro hk;rw[zdb (by omega),zdz,List.length_append,ih (by omega)];rfl
theorem zgL (l:List Nd):∀k,k≤l.length→emps (l.take k)=(emps l).take (k+1):=by
 suffices h:∀d k,k+d=l.length→emps (l.take k)=(emps l).take (k+1) from fun k hk=>h (l.length-k) k (by omega)
 intro d
 induction d with
 | zero =>
  intro k hk;rw[List.take_of_length_le (by omega),List.take_of_length_le (by rw[ziY];omega)]
 | succ d ih =>
  intro k hk;have h:=ih (k+1) (by omega);rw[zdb (by omega),zdz] at h;have hl:(emps (l.take k)).length=k+1:=by rw[ziY,List.length_take];omega
  have:=congrArg (List.take (k+1)) h;rw[List.take_append_of_le_length (by omega),List.take_of_length_le (by omega),List.take_take] at this;rw[this];congr 1;omega
theorem zvS {l:List Nd}{i:Nat}(hi:i<l.length):empB l (i+1)=zeu (emps (l.take i)) (at_ l i):=by
 have h:=zgL l (i+1) (by omega);rw[zdb hi,zdz] at h;have hl:(emps (l.take i)).length=i+1:=by rw[ziY,List.length_take];omega
 have h2:((emps l).take (i+1+1))[i+1]?=some (zeu (emps (l.take i)) (at_ l i)):=by
  rw[←h,List.getElem?_append_right (by omega),hl];simp
 rw[List.getElem?_take,if_pos (by omega)] at h2;unfold empB;rw[List.getD_eq_getElem?_getD,h2];rfl
theorem zpQ (l:List Nd):empB l 0=true:=by
 have h:=zgL l 0 (by omega);have h2:((emps l).take 1)[0]?=some true:=by
  rw[←h];rfl
 rw[List.getElem?_take,if_pos (by omega)] at h2;unfold empB;rw[List.getD_eq_getElem?_getD,h2];rfl
theorem zaH {l:List Nd}{x:Nd}(h:fitB l x=true):1≤x.lv∧x.lv≤1329:=by
 unfold fitB at h;rw[Bool.and_eq_true,decide_eq_true_iff] at h;exact h.1
theorem zav {l:List Nd}{x:Nd}(h:fitB l x=true){i:Nat}(hi:i<4):kidB l x.lv (x.kid i)=true:=by
 unfold fitB at h;rw[Bool.and_eq_true,zbM] at h;exact h.2 i hi
theorem zbc {l:List Nd}{v k:Int}(hv:v≠1)(h:kidB l v k=true):k=0∨∃m:Nat,k=(m:Int)+1∧m<l.length∧(at_ l m).lv=v-1:=by
 unfold kidB at h;rw[if_neg hv,decide_eq_true_iff] at h;rcases h with h|⟨h1,h2,h3⟩
 ·exact .inl h
 ·refine .inr ⟨k.toNat-1,by omega,by omega,h3⟩
theorem zmZ {l:List Nd}{i:Nat}{v k:Int}(h:kidB (l.take i) v k=true):kidB l v k=true:=by
 by_cases hv:v=1
 ·subst hv;exact h
 ·have hle:=List.length_take_le' i l;have hli:=List.length_take_le i l;rcases zbc hv h with rfl|⟨m,rfl,hm,hl⟩
  ·unfold kidB;rw[if_neg hv];exact decide_eq_true (.inl rfl)
  ·unfold kidB;rw[if_neg hv];have e:((m:Int)+1).toNat-1=m:=by omega
   rw[zda (by omega)] at hl;exact decide_eq_true (.inr ⟨by omega,by omega,by rw[e];exact hl⟩)
theorem zsQ {l:List Nd}{i:Nat}{x:Nd}(h:fitB (l.take i) x=true):fitB l x=true:=by
 have h1:=zaH h;unfold fitB;rw[Bool.and_eq_true,zbM];exact⟨decide_eq_true h1,fun j hj=>zmZ (zav h hj)⟩
theorem zan {l:List Nd}:zai l=true↔∀i,i<l.length→fitB (l.take i) (at_ l i)=true:=by
 unfold zai;rw[List.all_eq_true];exact⟨fun h i hi=>h i (List.mem_range.2 hi),fun h i hi=>h i (List.mem_range.1 hi)⟩
theorem zaq {l:List Nd}(h:zai l=true){i:Nat}(hi:i<l.length):fitB l (at_ l i)=true:=zsQ (zan.1 h i hi)
theorem zlF {l:List Nd}{x:Nd}(h:x.lv=1):zbk l x=x.each (· == 0):=by
 unfold zbk zeu;refine zdX fun i hi=>?_;rw[h];simp
theorem zpR {l:List Nd}{x:Nd}(h:1<x.lv):zbk l x=x.each fun c=>c==0||empB l c.toNat:=by
 unfold zbk zeu;refine zdX fun i hi=>?_;rw[decide_eq_true h,Bool.true_and];rfl
theorem zoa {l:List Nd}{i:Nat}{x:Nd}(hi:i≤l.length)(h:fitB (l.take i) x=true):zeu (emps (l.take i)) x=zbk l x:=by
 have hv:=zaH h;by_cases h1:x.lv=1
 ·exact(zlF (l:=l.take i) h1).trans (zlF h1).symm
 ·refine(zpR (l:=l.take i) (by omega)).trans (Eq.trans ?_ (zpR (by omega)).symm);refine zdX fun j hj=>?_;rcases zbc h1 (zav h hj) with e|⟨m,e,hm,_⟩
  ·rw[e];rfl
  ·rw[e];congr 1;have hli:=List.length_take_le i l;unfold empB;rw[zgL l i hi,List.getD_eq_getElem?_getD,List.getD_eq_getElem?_getD,List.getElem?_take,if_pos (by omega)]
theorem zpS {l:List Nd}(h:zai l=true){i:Nat}(hi:i<l.length):empB l (i+1)=zbk l (at_ l i):=by
 rw[zvS hi];exact zoa (by omega) (zan.1 h i hi)
theorem zsR {l:List Nd}{x:Nd}(h:x.each (· == 0)=true):zbk l x=true:=by
 unfold zbk zeu;rw[zbM] at h ⊢;intro i hi;rw[h i hi];rfl
theorem zsS {l:List Nd}(h:zai l=true)(hz:∀i,i<l.length→(at_ l i).each (· == 0)=false):∀i,i<l.length→zbk l (at_ l i)=false:=by
 intro i
 induction i using Nat.strongRecOn with
 | _ i ih =>
  intro hi;have hf:=zan.1 h i hi;have hv:=zaH hf;by_cases h1:(at_ l i).lv=1
  ·rw[zlF h1];exact hz i hi
  ·rw[zpR (by omega)];cases hq:(at_ l i).each fun c=>c==0||empB l c.toNat
   ·rfl
   ·exfalso;have hall:=zbM.1 hq;have hzero:(at_ l i).each (· == 0)=true:=by
     rw[zbM];intro j hj;rcases zbc h1 (zav hf hj) with e|⟨m,e,hm,_⟩
     ·rw[e];rfl
     ·have hli:=List.length_take_le i l;have ht:=hall j hj;rw[e] at ht;have e2:((m:Int)+1).toNat=m+1:=by omega
      rw[e2,zpS h (by omega),ih m (by omega) (by omega),Bool.or_false] at ht;rw[e];exact ht
    rw[hz i hi] at hzero;cases hzero
end Go.Proofs.YtbabbmdpgpcgjaaGreatDoor.Nds

namespace Go.Proofs.YtbabbmdpgpcgjaaGreatDoor.Nds
def zxy (f:Nat→Nat→Option Nat)(e:Option Nat)(k:Int):Option Nat:=e.bind fun e=>if (e:Int)<k then f k.toNat e else some e
def zig (f:Nat→Nat→Option Nat)(x:Nd)(e:Nat):Nat→Option Nat
 | 0=>some e
 | k+1=>zxy f (zig f x e k) (x.kid k)
def wk (l:List Nd):Nat→Nat→Nat→Option Nat
 | 0,_,_=>none
 | m+1,n,e=>(if 1<(at_ l (n-1)).lv then zig (wk l m) (at_ l (n-1)) e 4 else some e).bind fun e'=>if n=e'+1 then some n else none
def zel (f:Nat→List Nat→List Nat)(out:List Nat)(k:Int):List Nat:=if 0<k then f k.toNat out else out
def zdf (f:Nat→List Nat→List Nat)(x:Nd)(out:List Nat):Nat→List Nat
 | 0=>out
 | k+1=>zel f (zdf f x out k) (x.kid k)
def endL (l:List Nd):Nat→Nat→List Nat→List Nat
 | 0,_,out=>out
 | m+1,n,out=>if n∈out then out else (if 1<(at_ l (n-1)).lv then zdf (endL l m) (at_ l (n-1)) out 4 else out)++[n]
theorem zkj {l:List Nd}(hl:zai l=true){n:Nat}(h0:0<n)(hn:n≤l.length)(hv:1<(at_ l (n-1)).lv){i:Nat}(hi:i<4) :
  (at_ l (n-1)).kid i=0∨∃p:Nat,(at_ l (n-1)).kid i=(p:Int)∧0<p∧p<n∧(at_ l (p-1)).lv=(at_ l (n-1)).lv-1:=by
 have hf:=zan.1 hl (n-1) (by omega);rcases zbc (by omega) (zav hf hi) with e|⟨m,e,hm,hl2⟩
 ·exact .inl e
 ·have hle:=List.length_take_le (n-1) l;refine .inr ⟨m+1,by rw[e];omega,by omega,by omega,?_⟩;rw[zda (by omega)] at hl2;exact hl2
theorem zkk {f:Nat→List Nat→List Nat}{x:Nd}{out:List Nat}(hf:∀n out,out <+: f n out):∀k,out <+: zdf f x out k
 | 0=>List.prefix_rfl
 | k+1=>by
  unfold zdf zel;have h:=zkk (x:=x) (out:=out) hf k;split
  ·exact h.trans (hf _ _)
  ·exact h
theorem zna (l:List Nd):∀m n out,out <+: endL l m n out
 | 0,_,_=>List.prefix_rfl
 | m+1,n,out=>by
  unfold endL;split
  ·exact List.prefix_rfl
  ·split
   ·exact(zkk (fun n out=>zna l m n out) 4).trans (List.prefix_append _ _)
   ·exact List.prefix_append _ _
theorem zlG {l:List Nd}{m n:Nat}{out:List Nat}(h:n∈out):endL l m n out=out:=by
 cases m with
 | zero=>rfl
 | succ m =>
  unfold endL;rw[if_pos h]
theorem ziZ {l:List Nd}(hl:zai l=true):∀(m n:Nat) (out:List Nat),0<n→n≤l.length→∀v∈endL l m n out,v∈out∨(0<v∧v≤n)
 | 0,_,_,_,_=>fun v hv=>.inl hv
 | m+1,n,out,h0,hn=>by
  intro v hv;unfold endL at hv;split at hv
  ·exact .inl hv
  ·rw[List.mem_append] at hv;rcases hv with hv|hv
   ·split at hv
    ·rename_i hlv;have key:∀k,k≤4→∀v∈zdf (endL l m) (at_ l (n-1)) out k,v∈out∨(0<v∧v≤n):=by
      intro k
      induction k with
      | zero=>exact fun _ v hv=>.inl hv
      | succ k ih =>
       intro hk v hv;unfold zdf zel at hv;split at hv
       ·rename_i hpos;rcases zkj hl h0 hn hlv (i:=k) (by omega) with e|⟨p,e,hp,hpn,_⟩
        ·omega
        ·rw[e] at hv;rcases ziZ hl m p _ hp (by omega) v (by simpa using hv) with h|h
         ·exact ih (by omega) v h
         ·exact .inr ⟨h.1,by omega⟩
       ·exact ih (by omega) v hv
     exact key 4 (by omega) v hv
    ·exact .inl hv
   ·rw[List.mem_singleton] at hv;subst hv;exact .inr ⟨h0,Nat.le_refl _⟩
theorem zkl {l:List Nd}(hl:zai l=true){m n:Nat}{out:List Nat}(h0:0<n)(hn:n≤l.length)(hlv:1<(at_ l (n-1)).lv):∀k,k≤4→∀v∈zdf (endL l m) (at_ l (n-1)) out k,v∈out∨(0<v∧v<n):=by
 intro k
 induction k with
 | zero=>exact fun _ v hv=>.inl hv
 | succ k ih =>
  intro hk v hv;unfold zdf zel at hv;split at hv
  ·rename_i hpos;rcases zkj hl h0 hn hlv (i:=k) (by omega) with e|⟨p,e,hp,hpn,_⟩
   ·omega
   ·rw[e] at hv;rcases ziZ hl m p _ hp (by omega) v (by simpa using hv) with h|h
    ·exact ih (by omega) v h
    ·exact .inr ⟨h.1,by omega⟩
  ·exact ih (by omega) v hv
theorem zfq {l:List Nd}(hl:zai l=true):∀(m n:Nat) (out:List Nat),0<n→n≤l.length→out.Nodup→(endL l m n out).Nodup
 | 0,_,_,_,_,h=>h
 | m+1,n,out,h0,hn,h=>by
  unfold endL;split
  ·exact h
  ·rename_i hnot;rw[List.nodup_append];refine⟨?_,by simp,?_⟩
   ·split
    ·rename_i hlv;have key:∀k,k≤4→(zdf (endL l m) (at_ l (n-1)) out k).Nodup:=by
      intro k
      induction k with
      | zero=>exact fun _=>h
      | succ k ih =>
       intro hk;unfold zdf zel;split
       ·rename_i hpos;rcases zkj hl h0 hn hlv (i:=k) (by omega) with e|⟨p,e,hp,hpn,_⟩
        ·omega
        ·rw[e];exact zfq hl m _ _ (by simpa using hp) (by simp;omega) (ih (by omega))
       ·exact ih (by omega)
     exact key 4 (by omega)
    ·exact h
   ·intro a ha b hb e;rw[List.mem_singleton] at hb;subst hb;subst e;split at ha
    ·rename_i hlv;rcases zkl hl h0 hn hlv 4 (by omega) a ha with h'|h'
     ·exact hnot h'
     ·omega
    ·exact hnot ha
theorem zlH {l:List Nd}(hl:zai l=true){m n:Nat}{out:List Nat}(h0:0<n)(hn:n≤l.length)(hlv:1<(at_ l (n-1)).lv)(h:out.Nodup){x:Nd}(hx:x=at_ l (n-1)):∀k,k≤4→(zdf (endL l m) x out k).Nodup:=by
 subst hx;intro k
 induction k with
 | zero=>exact fun _=>h
 | succ k ih =>
  intro hk;unfold zdf zel;split
  ·rename_i hpos;rcases zkj hl h0 hn hlv (i:=k) (by omega) with e|⟨p,e,hp,hpn,_⟩
   ·omega
   ·rw[e];exact zfq hl m _ _ (by simpa using hp) (by simp;omega) (ih (by omega))
  ·exact ih (by omega)
theorem zeL:∀(N:Nat) (out:List Nat),out.Nodup→(∀v∈out,0<v∧v≤N)→out.length≤N
 | 0,out,_,h=>by
  cases out with
  | nil=>exact Nat.le_refl _
  | cons a r=>have:=h a (by simp);omega
 | N+1,out,hd,h=>by
  by_cases hm:N+1∈out
  ·have h1:=zeL N (out.erase (N+1)) (hd.erase _) (fun v hv=>by
    have hv2:=(hd.mem_erase_iff).1 hv;have:=h v hv2.2;have:=hv2.1;omega)
   rw[List.length_erase_of_mem hm] at h1;omega
  ·have:=zeL N out hd (fun v hv=>by
    have:=h v hv;have:v≠N+1:=fun e=>hm (e ▸ hv);omega)
   omega
theorem zpT {l:List Nd}(hl:zai l=true){m n:Nat}{out:List Nat}(h0:0<n)(hn:n≤l.length)(hd:out.Nodup)(ho:∀v∈out,0<v∧v≤l.length):(endL l m n out).length≤l.length:=by
 refine zeL _ _ (zfq hl m n out h0 hn hd) (fun v hv=>?_);rcases ziZ hl m n out h0 hn v hv with h|h
 ·exact ho v h
 ·exact⟨h.1,by omega⟩
def upto (e:Nat):List Nat:=List.range' 1 e
theorem zdY {e v:Nat}:v∈upto e↔0<v∧v≤e:=by
 unfold upto;rw[List.mem_range'_1];omega
theorem zgM (e:Nat):upto e++[e+1]=upto (e+1):=by
 unfold upto;rw[List.range'_concat];simp[Nat.add_comm]
theorem zcA (e:Nat):(upto e).length=e:=by
 unfold upto;simp
theorem zja {e i:Nat}(h:i<e):(upto e)[i]?=some (1+i):=by
 unfold upto;rw[List.getElem?_range' h];simp
theorem znb {out:List Nat}{e:Nat}(h:out <+: upto e):out=upto out.length:=by
 obtain⟨r,hr⟩:=h;have hlen:=congrArg List.length hr;rw[List.length_append,zcA] at hlen;refine List.ext_getElem (by rw[zcA]) fun i h1 h2=>?_;have h3:(out++r)[i]?=(upto e)[i]?:=by rw[hr]
 rw[List.getElem?_append_left h1,zja (by omega)] at h3;have h4:=zja (e:=out.length) h1;rw[List.getElem?_eq_getElem h1] at h3;rw[List.getElem?_eq_getElem h2] at h4;exact Option.some.inj (h3.trans h4.symm)
theorem zvc {l:List Nd}(hl:zai l=true):∀(m n e:Nat),0<n→n≤l.length→(at_ l (n-1)).lv≤m→e<n →
  (wk l m n e=some n∧endL l m n (upto e)=upto n)∨(wk l m n e=none∧∀k,¬ endL l m n (upto e) <+: upto k)
 | 0,n,e,h0,hn,hv,_=>by
  have:=zaH (zan.1 hl (n-1) (by omega));omega
 | m+1,n,e,h0,hn,hv,he=>by
  have hnot:n∉upto e:=fun h=>by have:=zdY.1 h;omega
  by_cases hlv:1<(at_ l (n-1)).lv
  ·have key:∀k,k≤4→(∃e',e'<n∧zig (wk l m) (at_ l (n-1)) e k=some e'∧zdf (endL l m) (at_ l (n-1)) (upto e) k=upto e') ∨
     (zig (wk l m) (at_ l (n-1)) e k=none∧∀j,¬ zdf (endL l m) (at_ l (n-1)) (upto e) k <+: upto j):=by
    intro k
    induction k with
    | zero=>exact fun _=>.inl ⟨e,he,rfl,rfl⟩
    | succ k ih =>
     intro hk;rcases ih (by omega) with⟨e',he',h1,h2⟩|⟨h1,h2⟩
     ·unfold zig zdf;rw[h1,h2];unfold zxy zel;rcases zkj hl h0 hn hlv (i:=k) (by omega) with e0|⟨p,e0,hp,hpn,hpl⟩
      ·rw[e0];refine .inl ⟨e',he',?_,rfl⟩;rw[Option.bind_some,if_neg (by omega)]
      ·rw[e0];rw[if_pos (show(0:Int)<(p:Int) by omega),Int.toNat_natCast,Option.bind_some];by_cases hep:e'<p
       ·rw[if_pos (by omega)];rcases zvc hl m p e' hp (by omega) (by omega) hep with⟨g1,g2⟩|⟨g1,g2⟩
        ·exact .inl ⟨p,hpn,g1,g2⟩
        ·exact .inr ⟨g1,g2⟩
       ·rw[if_neg (by omega),zlG (zdY.2 ⟨hp,by omega⟩)];exact .inl ⟨e',he',rfl,rfl⟩
     ·unfold zig zdf;rw[h1];refine .inr ⟨rfl,fun j hj=>h2 j ?_⟩;refine List.IsPrefix.trans ?_ hj;unfold zel;split
      ·exact zna l m _ _
      ·exact List.prefix_rfl
   unfold wk endL;rw[if_pos hlv,if_neg hnot,if_pos hlv];rcases key 4 (by omega) with⟨e',he',h1,h2⟩|⟨h1,h2⟩
   ·rw[h1,h2];rw[Option.bind_some];by_cases hne:n=e'+1
    ·rw[if_pos hne,hne,zgM];exact .inl ⟨rfl,rfl⟩
    ·rw[if_neg hne];refine .inr ⟨rfl,fun k hk=>?_⟩;have h3:=znb hk;have h4:n∈upto e'++[n]:=by simp
     rw[h3,zdY,List.length_append,zcA] at h4;simp at h4;omega
   ·rw[h1];refine .inr ⟨rfl,fun k hk=>h2 k ((List.prefix_append _ _).trans hk)⟩
  ·unfold wk endL;rw[if_neg hlv,if_neg hnot,if_neg hlv];rw[Option.bind_some];by_cases hne:n=e+1
   ·rw[if_pos hne,hne,zgM];exact .inl ⟨rfl,rfl⟩
   ·rw[if_neg hne];refine .inr ⟨rfl,fun k hk=>?_⟩;have h3:=znb hk;have h4:n∈upto e++[n]:=by simp
    rw[h3,zdY,List.length_append,zcA] at h4;simp at h4;omega
end Go.Proofs.YtbabbmdpgpcgjaaGreatDoor.Nds
