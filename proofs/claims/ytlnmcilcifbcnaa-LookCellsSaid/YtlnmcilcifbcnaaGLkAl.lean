/-
  look: the reference's put.
  look: the reference's Set.
  look: what the laws' walks need: boxes of quads and of numbers that stand; the calls on numbers as they are carried.
  look: the fixed fact.
-/
import Derived.Test.YtlnmcilcifbcnaaGLkRq
import Derived.Test.YtlnmcilcifbcnaaGLkRw
import Derived.Test.YtlnmcilcifbcnaaGLkSp
import Derived.Test.YtlnmcilcifbcnaaGNcPB
import Derived.Test.YtlnmcilcifbcnaaGClK2
import Derived.Test.YtlnmcilcifbcnaaGClRm
import Derived.Deep.RegionHeld3
import Derived.Test.YtlnmcilcifbcnaaGNcRS
import Derived.Test.YtlnmcilcifbcnaaGNcE
import Derived.Test.YtlnmcilcifbcnaaLay0

set_option linter.unusedVariables false
set_option linter.unusedSimpArgs false
set_option maxRecDepth 100000
namespace Go.Proofs.Ytlnmcilcifbcnaa
open Go.RowKit Num Nds
theorem rng_p {X : Int} {j : Nat} (h : 0 ≤ X ∧ X < p2 (j + 1)) (hj : j ≤ 1328) : -p2 1329 ≤ X ∧ X ≤ p2 1329 := by
 have h1 := p2_mono (show j + 1 ≤ 1329 by omega)
 have h2 := p2_pos (j + 1)
 omega
theorem nd_cell {W : World} {g : Nat} {x : Nd} (h : NdBox W g x) : ∀ o v, W.cell? ⟨g, o, none⟩ = some v → ∀ k, v ≠ .int .u32 k := fun o v hv k e => by
 subst e
 rw [cell_of_row W g _ _ _ _ h] at hv
 match o with
 | 0 => simp at hv
 | 1 => simp at hv
 | 2 => simp at hv
 | 3 => simp at hv
 | 4 => simp at hv
 | o + 5 => simp at hv
theorem put_four {w W : World} {u t : Bw} {X Y : Int} {x0 : Nd} (hb : Below w.heap.size w W) (h1 : u.B W w.heap.size X) (h2 : t.B W (w.heap.size + 1) Y) (h3 : NdBox W (w.heap.size + 1 + 1) x0) (x : Nd) :
  NdBox (((((W.setCell ⟨w.heap.size + 1 + 1, 0, none⟩ (.int .i64 x.lv)).setCell ⟨w.heap.size + 1 + 1, 1, none⟩ (.int .i64 x.a)).setCell ⟨w.heap.size + 1 + 1, 2, none⟩ (.int .i64 x.b)).setCell ⟨w.heap.size + 1 + 1, 3, none⟩ (.int .i64 x.c)).setCell ⟨w.heap.size + 1 + 1, 4, none⟩ (.int .i64 x.d)) (w.heap.size + 1 + 1) x ∧
  Below w.heap.size w (((((W.setCell ⟨w.heap.size + 1 + 1, 0, none⟩ (.int .i64 x.lv)).setCell ⟨w.heap.size + 1 + 1, 1, none⟩ (.int .i64 x.a)).setCell ⟨w.heap.size + 1 + 1, 2, none⟩ (.int .i64 x.b)).setCell ⟨w.heap.size + 1 + 1, 3, none⟩ (.int .i64 x.c)).setCell ⟨w.heap.size + 1 + 1, 4, none⟩ (.int .i64 x.d)) ∧
  u.B (((((W.setCell ⟨w.heap.size + 1 + 1, 0, none⟩ (.int .i64 x.lv)).setCell ⟨w.heap.size + 1 + 1, 1, none⟩ (.int .i64 x.a)).setCell ⟨w.heap.size + 1 + 1, 2, none⟩ (.int .i64 x.b)).setCell ⟨w.heap.size + 1 + 1, 3, none⟩ (.int .i64 x.c)).setCell ⟨w.heap.size + 1 + 1, 4, none⟩ (.int .i64 x.d)) w.heap.size X ∧
  t.B (((((W.setCell ⟨w.heap.size + 1 + 1, 0, none⟩ (.int .i64 x.lv)).setCell ⟨w.heap.size + 1 + 1, 1, none⟩ (.int .i64 x.a)).setCell ⟨w.heap.size + 1 + 1, 2, none⟩ (.int .i64 x.b)).setCell ⟨w.heap.size + 1 + 1, 3, none⟩ (.int .i64 x.c)).setCell ⟨w.heap.size + 1 + 1, 4, none⟩ (.int .i64 x.d)) (w.heap.size + 1) Y := by
 have ky : ∀ {W' : World}, Ky (fun k => k = w.heap.size + 1 + 1) W W' → u.B W' w.heap.size X ∧ t.B W' (w.heap.size + 1) Y := fun k => by
  refine ⟨⟨(k.block _ h1.lt (by omega)).trans h1.box, ⟨ky_us k h1.r.us (fun h0 a ea => us_off h1.r.us (nd_cell h3) h0 a ea), h1.r.cn, h1.r.v⟩⟩, ⟨(k.block _ h2.lt (by omega)).trans h2.box, ⟨ky_us k h2.r.us (fun h0 a ea => us_off h2.r.us (nd_cell h3) h0 a ea), h2.r.cn, h2.r.v⟩⟩⟩
 have kk : ∀ {W' : World} (o : Nat) (n : Int), Ky (fun k => k = w.heap.size + 1 + 1) W W' → Ky (fun k => k = w.heap.size + 1 + 1) W (W'.setCell ⟨w.heap.size + 1 + 1, o, none⟩ (.int .i64 n)) := fun o n k => k.set _ (fun _ => rfl) _
 obtain ⟨a1, a2⟩ := ky (kk 4 x.d (kk 3 x.c (kk 2 x.b (kk 1 x.a (kk 0 x.lv (Ky.refl _ W))))))
 exact ⟨h3.put x, put_below hb (by omega) x, a1, a2⟩
def RetRp (base : Nat) (v : Value) (r : List Nd × Int) (w : World) (e : Ending) (w' : World) : Prop :=
 ∃ v', e = .returned (.tuple #[v', .int .i64 r.2]) ∧ OwnN w' base v' r.1 ∧ (∀ k, v'.ownBlock = some k → v.ownBlock = some k ∨ w.heap.size ≤ k) ∧ Ky (fun k => v.ownBlock = some k) w w'
theorem putF_len (l : List Nd) (s : Int) : ∀ (m : Nat) (k X Y : Int), (putF m l k X Y s).1.length = l.length + m
 | 0, _, _, _ => rfl
 | m + 1, k, X, Y => by
  show ((putF m l ((nodeF m l k).kid (qtI (p2 m) X Y)) (subI (p2 m) X) (subI (p2 m) Y) s).1 ++ [_]).length = _
  rw [List.length_append, List.length_singleton, putF_len l s m]
  omega
theorem putF_num {l : List Nd} {s : Int} (hs : 0 ≤ s ∧ s ≤ 255) (hl : l.length ≤ 990000) : ∀ (m : Nat) (k X Y : Int), m ≤ 1329 → in64 (putF m l k X Y s).2
 | 0, k, X, Y, _ => ⟨by show _ ≤ s; omega, by show s ≤ _; omega⟩
 | m + 1, k, X, Y, h => by
  have := putF_len l s m ((nodeF m l k).kid (qtI (p2 m) X Y)) (subI (p2 m) X) (subI (p2 m) Y)
  exact ⟨by show _ ≤ (((putF m l ((nodeF m l k).kid (qtI (p2 m) X Y)) (subI (p2 m) X) (subI (p2 m) Y) s).1.length + 1 : Nat) : Int); omega, by show (((putF m l ((nodeF m l k).kid (qtI (p2 m) X Y)) (subI (p2 m) X) (subI (p2 m) Y) s).1.length + 1 : Nat) : Int) ≤ _; omega⟩
theorem sub_in {X : Int} {j : Nat} (h : 0 ≤ X ∧ X < p2 (j + 1)) : 0 ≤ subI (p2 j) X ∧ subI (p2 j) X < p2 j := by
 have ep := p2_succ j
 unfold subI
 split <;> omega
theorem ret2_int {v : Value} {a b : Int} (h : a = b) : Ending.returned (.tuple #[v, .int .i64 a]) = .returned (.tuple #[v, .int .i64 b]) := by rw [h]
theorem ky_new {P : Nat → Prop} {w w' : World} (h : Ky P w w') {x : Nd} {g : Nat} (hx : NdBox w g x) (hp : ¬ P g) : NdBox w' g x := hx.stay (h.block g hx.lt hp)
set_option maxHeartbeats 6400000 in
theorem rput_rec (base s : Nat) (l : List Nd) (hl : looseB l = true) (hl9 : l.length ≤ 890000) (hs : s ≤ 255) :
    ∀ (m : Nat) (v : Value) (k : Int) (u t : Bw) (X Y : Int) (w : World), m ≤ 1328 → OwnN w base v l → kidB l (((m + 1 : Nat) : Int) + 1) k = true → u.R w X → t.R w Y → (0 ≤ X ∧ X < p2 (m + 1)) → (0 ≤ Y ∧ Y < p2 (m + 1)) → base ≤ w.heap.size →
      Calls Try.prog 50 #[v, .int .i64 ((m : Int) + 1), .int .i64 k, u.val, t.val, .int .u8 (s : Int)] w (RetRp base v (putF (m + 1) l k X Y (s : Int)) w) := by
  intro m
  induction m with
  | zero =>
    intro v k u t X Y w hm how hk hu ht hX hY hb
    obtain ⟨A, c, rfl, hns, -, -⟩ := how.shape
    have hcap := hns.cap
    obtain ⟨n, hn⟩ : ∃ n, n = l.length := ⟨_, rfl⟩
    rw [← hn] at how hcap ⊢
    have hcu := hu.us.cap
    have hct := ht.us.cap
    have hne : ((0 + 1 : Nat) : Int) + 1 ≠ 1 := by omega
    have hup := kid_up hne hk
    obtain ⟨hxw, hxl⟩ := node_wf hl (by omega) (by omega) hk
    have hkd := fun i (hi : i < 4) => kid_kind hl (by omega) hk hi
    have hx0 : k = 0 → nodeF 0 l k = ⟨((0 : Nat) : Int) + 1, 0, 0, 0, 0⟩ := fun e => by unfold nodeF; rw [if_pos e]
    have hxp : ∀ p : Nat, k = (p : Int) + 1 → nodeF 0 l k = at_ l p := fun p e => by unfold nodeF; rw [e, if_neg (by omega), show ((p : Int) + 1 - 1).toNat = p by omega]
    obtain ⟨i, hi⟩ : ∃ i, i = qtI (p2 0) X Y := ⟨_, rfl⟩
    have hi4 : i < 4 := by rw [hi]; exact qtI_lt _ _ _
    obtain ⟨x, hx⟩ : ∃ x, x = nodeF 0 l k := ⟨_, rfl⟩
    obtain ⟨r, hr⟩ : ∃ r, r = putF 0 l (x.kid i) (subI (p2 0) X) (subI (p2 0) Y) (s : Int) := ⟨_, rfl⟩
    obtain ⟨z, hz⟩ : ∃ z, z = chK x i r.2 := ⟨_, rfl⟩
    have hpf : putF (0 + 1) l k X Y (s : Int) = (r.1 ++ [z], ((r.1.length + 1 : Nat) : Int)) := by rw [hz, hr, hx, hi]; rfl
    rw [← hx] at hxw hxl hkd hx0 hxp
    have hrl : r.1.length = n + 0 := by rw [hr, hn]; exact putF_len _ _ _ _ _ _
    have hrn : in64 r.2 := by rw [hr]; exact putF_num (by omega) (by omega) _ _ _ _ (by omega)
    have hzw : z.wf := by rw [hz]; exact chK_wf hxw i hrn
    obtain ⟨RR, hRR⟩ : ∃ RR, RR = RetRp base (.slice A n c) (putF (0 + 1) l k X Y (s : Int)) w := ⟨_, rfl⟩
    rw [← hRR]
    have HRR := Lib.hid hRR
    have HPF := Lib.hid hpf
    have HRL := Lib.hid hrl
    have HZW := Lib.hid hzw
    have HZ := Lib.hid hz
    have HRF := Lib.hid hr
    have HXL := Lib.hid hxl
    have HXW := Lib.hid hxw
    have HX0 := Lib.hid hx0
    have HXP := Lib.hid hxp
    have HKD := Lib.hid hkd
    have HI := Lib.hid hi
    have HUP := Lib.hid hup
    have HO := Lib.hid how
    have HN := Lib.hid hns
    have HL := Lib.hid hn
    have HU := Lib.hid hu
    have HT := Lib.hid ht
    have HX := Lib.hid hX
    have HY := Lib.hid hY
    have HVB := Lib.hid (show ∀ k, (Value.slice A n c).ownBlock = some k → base ≤ k ∧ k < w.heap.size from how.lt)
    obtain ⟨W, hW⟩ : ∃ W : World, W = ((w.alloc (.cells #[.bool u.s, .slice u.a u.xs.length u.c] 25)).alloc (.cells #[.bool t.s, .slice t.a t.xs.length t.c] 25)).alloc (.cells #[.int .i64 (((0 : Nat) : Int) + 1), .int .i64 0, .int .i64 0, .int .i64 0, .int .i64 0] 66) := ⟨_, rfl⟩
    have hbl : Below w.heap.size w W := by rw [hW]; exact (((Below.refl _ w).alloc (Nat.le_refl _) _).alloc (by simp) _).alloc (by simp; omega) _
    have hb1 : u.B W w.heap.size X := ⟨by rw [hW]; exact (Below.heap_alloc _ _ _ (by simp only [World.size_alloc]; omega)).trans ((Below.heap_alloc _ _ _ (by simp only [World.size_alloc]; omega)).trans (heap_alloc_new w _)), hu.next hbl⟩
    have hb2 : t.B W (w.heap.size + 1) Y := ⟨by
      rw [hW]
      refine (Below.heap_alloc _ _ _ (by simp only [World.size_alloc]; omega)).trans ?_
      have := heap_alloc_new (w.alloc (.cells #[.bool u.s, .slice u.a u.xs.length u.c] 25)) t.obj
      rwa [World.size_alloc] at this, ht.next hbl⟩
    have hb3 : NdBox W (w.heap.size + 1 + 1) ⟨((0 : Nat) : Int) + 1, 0, 0, 0, 0⟩ := by
      rw [hW]
      have := NdBox.new ((w.alloc (.cells #[.bool u.s, .slice u.a u.xs.length u.c] 25)).alloc (.cells #[.bool t.s, .slice t.a t.xs.length t.c] 25)) ⟨((0 : Nat) : Int) + 1, 0, 0, 0, 0⟩
      rwa [World.size_alloc, World.size_alloc] at this
    have HBL := Lib.hid hbl
    have HB1 := Lib.hid hb1
    have HB2 := Lib.hid hb2
    have HB3 := Lib.hid hb3
    have HW := Lib.hid hW
    have HWS := Lib.hid (show w.heap.size + 1 + 1 < W.heap.size from hb3.lt)
    have j1 : (0 : Int) ≤ (i : Int) := by omega
    have j2 : (i : Int) < 4 := by omega
    have e0 : ((0 : Nat) : Int) + 1 = 1 := rfl
    rw [e0] at HW ⊢
    clear how hns hup hkd hx0 hxp hxw hxl hx hr hz hpf hrl hrn hzw hi hRR hn hu ht hX hY hk hne hl hbl hb1 hb2 hb3 hW
    go_enter Try.func50, Try.ntmps50
    go_upto_if 21 with (fail)
    rw [← HW.out]
    go_cut [21] from 22 to 26 (fun _ wx => NdBox wx (w.heap.size + 1 + 1) x ∧ Below w.heap.size w wx ∧ u.B wx w.heap.size X ∧ t.B wx (w.heap.size + 1) Y)
    case first =>
      rcases HUP.out with hk0 | ⟨p, hkp, hpl, hplv⟩
      · have hx0 := HX0.out hk0
        have t1 : decide (k > 0) = false := by rw [hk0]; rfl
        have t2 : decide (0 < k) = false := t1
        have t3 : ¬ 0 < k := by omega
        clear hk0
        go_wp2_with fail
        go_meet
        refine ⟨?_, HBL.out, HB1.out, HB2.out⟩
        rw [hx0]
        exact HB3.out
      · have hxp := HXP.out p hkp
        have t1 : decide (k > 0) = true := by rw [hkp]; exact decide_eq_true (by omega)
        have t2 : decide (0 < k) = true := t1
        have t3 : 0 < k := by omega
        obtain ⟨b, off, hAe, hbk, hcl⟩ := HN.out.at_ (by omega)
        have hc := hcl p hpl
        rw [← hxp] at hc
        obtain ⟨d0, d1, d2, d3, d4⟩ := hc.below (HBL.out.block b hbk)
        subst hAe
        have i1 : (0 : Int) ≤ (p : Int) := by omega
        have i2 : (p : Int) < (n : Int) := by have := HL.out; omega
        have i3 : IntKind.i64.wrap (k - 1) = (p : Int) := by rw [hkp, show (p : Int) + 1 - 1 = (p : Int) by omega]; exact IntWalk.i64_in _ (by have := HL.out; omega)
        obtain ⟨e0, e1, e2, e3, e4⟩ := HB3.out.cells
        have z0 := HB3.out.free 0
        have z1 := HB3.out.free 1
        have z2 := HB3.out.free 2
        have z3 := HB3.out.free 3
        have z4 := HB3.out.free 4
        dsimp only at e0 e1 e2 e3 e4
        clear hkp hc hcl hxp hpl hplv
        go_wp2_with fail
        go_meet
        exact put_four HBL.out HB1.out HB2.out HB3.out x
    case rest =>
      obtain ⟨hbx, hbw, hxu, hxt⟩ := hcut
      have BX := Lib.hid hbx
      have BW := Lib.hid hbw
      have XU := Lib.hid hxu
      have XT := Lib.hid hxt
      have a0 := hxu.c0
      have a1 := hxu.c1
      have a2 := hxt.c0
      have a3 := hxt.c1
      clear hbx hbw hxu hxt
      have HR0 := Lib.hid (show r = (l, (s : Int)) from HRF.out)
      have hs9 := hs
      go_wp2_with (first
        | (go_at_call 52; go_loud (refine (rquarter_lk u t X Y 0 _ XU.out.r XT.out.r (rng_p HX.out (by omega)) (rng_p HY.out (by omega)) (by omega)).mono ?_; rintro e w6 ⟨a, b, rfl, ka, kb, b6⟩; rw [← HI.out]; have hca := ka.us.cap; have hcb := kb.us.cap; have B6 := Lib.hid (BW.out.trans (b6.mono BW.out.size)); have X6 := Lib.hid (BX.out.stay (b6.block _ BX.out.lt)); have KA := Lib.hid ka; have KB := Lib.hid kb; have hbv := ((Below.refl w6.heap.size w6).alloc (Nat.le_refl _) (.cells #[.bool a.s, .slice a.a a.xs.length a.c] 25)).alloc (by simp) (.cells #[.bool b.s, .slice b.a b.xs.length b.c] 25); have X8 := Lib.hid (X6.out.stay (hbv.block _ X6.out.lt)); have B8 := Lib.hid (B6.out.trans (hbv.mono B6.out.size)); have O8 := Lib.hid (HO.out.stays B8.out); have A8 := Lib.hid (show a.B ((w6.alloc (.cells #[.bool a.s, .slice a.a a.xs.length a.c] 25)).alloc (.cells #[.bool b.s, .slice b.a b.xs.length b.c] 25)) w6.heap.size (subI (p2 0) X) from ka.box.next ((Below.refl _ _).alloc (Nat.le_refl _) _)); have C8 := Lib.hid (show b.B ((w6.alloc (.cells #[.bool a.s, .slice a.a a.xs.length a.c] 25)).alloc (.cells #[.bool b.s, .slice b.a b.xs.length b.c] 25)) (w6.heap.size + 1) (subI (p2 0) Y) from by have h9 := (kb.next ((Below.refl w6.heap.size w6).alloc (Nat.le_refl _) (.cells #[.bool a.s, .slice a.a a.xs.length a.c] 25))).box; rw [World.size_alloc] at h9; exact h9); have kc := X8.out.kidAw hi4; have kf := X8.out.free (1 + i); clear hbv;  clear b6 ka kb); have hk8 := X8.out.chK hi4 rfl (s : Int); have e9 : chK x i (s : Int) = z := by rw [HZ.out, HR0.out]
           rw [e9] at hk8; obtain ⟨x0, x1, x2, x3, x4⟩ := hk8.cells; have K8 := Lib.hid hk8; clear hk8 e9)
        | (at_builtin; go_loud (refine wpList_append_nodes _ rfl _ _ rfl base _ l [z] _ 1 1 rfl rfl (((O8.out.gbr (gb_setCell _ ⟨w.heap.size + 1 + 1, 1 + i, none⟩ (.int .i64 (s : Int))) (own_dec fun k hk e => by have h4 := (HVB.out k hk).2; have h5 := Option.some.inj e; dsimp only at h5; omega))).alloc _) (ns_lit1 _ _ z HZW.out (by simp [World.setCell])) rfl (fun e => by cases e) (by omega) (by have := B8.out.size; simp [World.setCell] at this ⊢; omega) ?_; intro v9 w9 ho9 hg9 hk9; obtain ⟨A9, c9, hv9, -, -, -⟩ := ho9.shape; rw [List.length_append, ← HL.out, List.length_singleton] at hv9; subst hv9; have HO9 := Lib.hid ho9; have HG9 := Lib.hid hg9; have HK9 := Lib.hid hk9; clear ho9 hg9 hk9)))
      rw [HRR.out, HPF.out, HR0.out]
      refine ⟨.slice A9 (n + 1) c9, ?_, HO9.out, fun k hk => ?_, ?_⟩
      · show Ending.returned (.tuple #[.slice A9 (n + 1) c9, .int .i64 ((n : Int) + 1)]) = .returned (.tuple #[.slice A9 (n + 1) c9, .int .i64 ((l.length + 1 : Nat) : Int)])
        exact ret2_int (by rw [HL.out]; omega)
      · rcases HK9.out with h | h
        · exact .inl (h.symm.trans hk)
        · rw [h] at hk
          have h3 := Option.some.inj hk
          have h4 := B8.out.size
          simp [World.setCell] at h3 h4
          exact .inr (by omega)
      · exact ((((Ky.refl (fun k => (Value.slice A n c).ownBlock = some k) w).below B8.out).set ⟨w.heap.size + 1 + 1, 1 + i, none⟩ (fun h => absurd h (by show ¬ w.heap.size + 1 + 1 < w.heap.size; omega)) _).alloc _).gb HG9.out (fun q hq e => e)
  | succ m ih =>
    intro v k u t X Y w hm how hk hu ht hX hY hb
    obtain ⟨A, c, rfl, hns, -, -⟩ := how.shape
    have hcap := hns.cap
    obtain ⟨n, hn⟩ : ∃ n, n = l.length := ⟨_, rfl⟩
    rw [← hn] at how hcap ⊢
    have hcu := hu.us.cap
    have hct := ht.us.cap
    have hne : (((m + 1) + 1 : Nat) : Int) + 1 ≠ 1 := by omega
    have hup := kid_up hne hk
    obtain ⟨hxw, hxl⟩ := node_wf hl (by omega) (by omega) hk
    have hkd := fun i (hi : i < 4) => kid_kind hl (by omega) hk hi
    have hx0 : k = 0 → nodeF (m + 1) l k = ⟨((m + 1 : Nat) : Int) + 1, 0, 0, 0, 0⟩ := fun e => by unfold nodeF; rw [if_pos e]
    have hxp : ∀ p : Nat, k = (p : Int) + 1 → nodeF (m + 1) l k = at_ l p := fun p e => by unfold nodeF; rw [e, if_neg (by omega), show ((p : Int) + 1 - 1).toNat = p by omega]
    obtain ⟨i, hi⟩ : ∃ i, i = qtI (p2 (m + 1)) X Y := ⟨_, rfl⟩
    have hi4 : i < 4 := by rw [hi]; exact qtI_lt _ _ _
    obtain ⟨x, hx⟩ : ∃ x, x = nodeF (m + 1) l k := ⟨_, rfl⟩
    obtain ⟨r, hr⟩ : ∃ r, r = putF (m + 1) l (x.kid i) (subI (p2 (m + 1)) X) (subI (p2 (m + 1)) Y) (s : Int) := ⟨_, rfl⟩
    obtain ⟨z, hz⟩ : ∃ z, z = chK x i r.2 := ⟨_, rfl⟩
    have hpf : putF ((m + 1) + 1) l k X Y (s : Int) = (r.1 ++ [z], ((r.1.length + 1 : Nat) : Int)) := by rw [hz, hr, hx, hi]; rfl
    rw [← hx] at hxw hxl hkd hx0 hxp
    have hrl : r.1.length = n + (m + 1) := by rw [hr, hn]; exact putF_len _ _ _ _ _ _
    have hrn : in64 r.2 := by rw [hr]; exact putF_num (by omega) (by omega) _ _ _ _ (by omega)
    have hzw : z.wf := by rw [hz]; exact chK_wf hxw i hrn
    obtain ⟨RR, hRR⟩ : ∃ RR, RR = RetRp base (.slice A n c) (putF ((m + 1) + 1) l k X Y (s : Int)) w := ⟨_, rfl⟩
    rw [← hRR]
    have HRR := Lib.hid hRR
    have HPF := Lib.hid hpf
    have HRL := Lib.hid hrl
    have HZW := Lib.hid hzw
    have HZ := Lib.hid hz
    have HRF := Lib.hid hr
    have HXL := Lib.hid hxl
    have HXW := Lib.hid hxw
    have HX0 := Lib.hid hx0
    have HXP := Lib.hid hxp
    have HKD := Lib.hid hkd
    have HI := Lib.hid hi
    have HUP := Lib.hid hup
    have HO := Lib.hid how
    have HN := Lib.hid hns
    have HL := Lib.hid hn
    have HU := Lib.hid hu
    have HT := Lib.hid ht
    have HX := Lib.hid hX
    have HY := Lib.hid hY
    have HVB := Lib.hid (show ∀ k, (Value.slice A n c).ownBlock = some k → base ≤ k ∧ k < w.heap.size from how.lt)
    have HIH := Lib.hid ih
    obtain ⟨W, hW⟩ : ∃ W : World, W = ((w.alloc (.cells #[.bool u.s, .slice u.a u.xs.length u.c] 25)).alloc (.cells #[.bool t.s, .slice t.a t.xs.length t.c] 25)).alloc (.cells #[.int .i64 (((m + 1 : Nat) : Int) + 1), .int .i64 0, .int .i64 0, .int .i64 0, .int .i64 0] 66) := ⟨_, rfl⟩
    have hbl : Below w.heap.size w W := by rw [hW]; exact (((Below.refl _ w).alloc (Nat.le_refl _) _).alloc (by simp) _).alloc (by simp; omega) _
    have hb1 : u.B W w.heap.size X := ⟨by rw [hW]; exact (Below.heap_alloc _ _ _ (by simp only [World.size_alloc]; omega)).trans ((Below.heap_alloc _ _ _ (by simp only [World.size_alloc]; omega)).trans (heap_alloc_new w _)), hu.next hbl⟩
    have hb2 : t.B W (w.heap.size + 1) Y := ⟨by
      rw [hW]
      refine (Below.heap_alloc _ _ _ (by simp only [World.size_alloc]; omega)).trans ?_
      have := heap_alloc_new (w.alloc (.cells #[.bool u.s, .slice u.a u.xs.length u.c] 25)) t.obj
      rwa [World.size_alloc] at this, ht.next hbl⟩
    have hb3 : NdBox W (w.heap.size + 1 + 1) ⟨((m + 1 : Nat) : Int) + 1, 0, 0, 0, 0⟩ := by
      rw [hW]
      have := NdBox.new ((w.alloc (.cells #[.bool u.s, .slice u.a u.xs.length u.c] 25)).alloc (.cells #[.bool t.s, .slice t.a t.xs.length t.c] 25)) ⟨((m + 1 : Nat) : Int) + 1, 0, 0, 0, 0⟩
      rwa [World.size_alloc, World.size_alloc] at this
    have HBL := Lib.hid hbl
    have HB1 := Lib.hid hb1
    have HB2 := Lib.hid hb2
    have HB3 := Lib.hid hb3
    have HW := Lib.hid hW
    have HWS := Lib.hid (show w.heap.size + 1 + 1 < W.heap.size from hb3.lt)
    have j1 : (0 : Int) ≤ (i : Int) := by omega
    have j2 : (i : Int) < 4 := by omega
    have e0 : ((m + 1 : Nat) : Int) + 1 = (m : Int) + 1 + 1 := by omega
    have f0 : IntKind.i64.wrap ((m : Int) + 1 + 1 - 1) = (m : Int) + 1 := by rw [show (m : Int) + 1 + 1 - 1 = (m : Int) + 1 by omega]; exact IntWalk.i64_in _ (by omega)
    have f1 : IntKind.i64.wrap ((m : Int) + 1) = (m : Int) + 1 := IntWalk.i64_in _ (by omega)
    have t0 : (((m : Int) + 1 + 1) == 1) = false := by rw [beq_eq_false_iff_ne]; omega
    rw [e0] at HW ⊢
    clear how hns hup hkd hx0 hxp hxw hxl hx hr hz hpf hrl hrn hzw hi hRR hn hu ht hX hY hk hne hl hbl hb1 hb2 hb3 hW ih
    go_enter Try.func50, Try.ntmps50
    go_upto_if 21 with (fail)
    rw [← HW.out]
    go_cut [21] from 22 to 26 (fun _ wx => NdBox wx (w.heap.size + 1 + 1) x ∧ Below w.heap.size w wx ∧ u.B wx w.heap.size X ∧ t.B wx (w.heap.size + 1) Y)
    case first =>
      rcases HUP.out with hk0 | ⟨p, hkp, hpl, hplv⟩
      · have hx0 := HX0.out hk0
        have t1 : decide (k > 0) = false := by rw [hk0]; rfl
        have t2 : decide (0 < k) = false := t1
        have t3 : ¬ 0 < k := by omega
        clear hk0
        go_wp2_with fail
        go_meet
        refine ⟨?_, HBL.out, HB1.out, HB2.out⟩
        rw [hx0]
        exact HB3.out
      · have hxp := HXP.out p hkp
        have t1 : decide (k > 0) = true := by rw [hkp]; exact decide_eq_true (by omega)
        have t2 : decide (0 < k) = true := t1
        have t3 : 0 < k := by omega
        obtain ⟨b, off, hAe, hbk, hcl⟩ := HN.out.at_ (by omega)
        have hc := hcl p hpl
        rw [← hxp] at hc
        obtain ⟨d0, d1, d2, d3, d4⟩ := hc.below (HBL.out.block b hbk)
        subst hAe
        have i1 : (0 : Int) ≤ (p : Int) := by omega
        have i2 : (p : Int) < (n : Int) := by have := HL.out; omega
        have i3 : IntKind.i64.wrap (k - 1) = (p : Int) := by rw [hkp, show (p : Int) + 1 - 1 = (p : Int) by omega]; exact IntWalk.i64_in _ (by have := HL.out; omega)
        obtain ⟨e0, e1, e2, e3, e4⟩ := HB3.out.cells
        have z0 := HB3.out.free 0
        have z1 := HB3.out.free 1
        have z2 := HB3.out.free 2
        have z3 := HB3.out.free 3
        have z4 := HB3.out.free 4
        dsimp only at e0 e1 e2 e3 e4
        clear hkp hc hcl hxp hpl hplv
        go_wp2_with fail
        go_meet
        exact put_four HBL.out HB1.out HB2.out HB3.out x
    case rest =>
      obtain ⟨hbx, hbw, hxu, hxt⟩ := hcut
      have BX := Lib.hid hbx
      have BW := Lib.hid hbw
      have XU := Lib.hid hxu
      have XT := Lib.hid hxt
      have a0 := hxu.c0
      have a1 := hxu.c1
      have a2 := hxt.c0
      have a3 := hxt.c1
      clear hbx hbw hxu hxt
      go_wp2_with (go_at_call 52; go_loud (refine (rquarter_lk u t X Y (m + 1) _ XU.out.r XT.out.r (rng_p HX.out (by omega)) (rng_p HY.out (by omega)) (by omega)).mono ?_; rintro e w6 ⟨a, b, rfl, ka, kb, b6⟩; rw [← HI.out]; have hca := ka.us.cap; have hcb := kb.us.cap; have B6 := Lib.hid (BW.out.trans (b6.mono BW.out.size)); have X6 := Lib.hid (BX.out.stay (b6.block _ BX.out.lt)); have KA := Lib.hid ka; have KB := Lib.hid kb; have hbv := ((Below.refl w6.heap.size w6).alloc (Nat.le_refl _) (.cells #[.bool a.s, .slice a.a a.xs.length a.c] 25)).alloc (by simp) (.cells #[.bool b.s, .slice b.a b.xs.length b.c] 25); have X8 := Lib.hid (X6.out.stay (hbv.block _ X6.out.lt)); have B8 := Lib.hid (B6.out.trans (hbv.mono B6.out.size)); have O8 := Lib.hid (HO.out.stays B8.out); have A8 := Lib.hid (show a.B ((w6.alloc (.cells #[.bool a.s, .slice a.a a.xs.length a.c] 25)).alloc (.cells #[.bool b.s, .slice b.a b.xs.length b.c] 25)) w6.heap.size (subI (p2 (m + 1)) X) from ka.box.next ((Below.refl _ _).alloc (Nat.le_refl _) _)); have C8 := Lib.hid (show b.B ((w6.alloc (.cells #[.bool a.s, .slice a.a a.xs.length a.c] 25)).alloc (.cells #[.bool b.s, .slice b.a b.xs.length b.c] 25)) (w6.heap.size + 1) (subI (p2 (m + 1)) Y) from by have h9 := (kb.next ((Below.refl w6.heap.size w6).alloc (Nat.le_refl _) (.cells #[.bool a.s, .slice a.a a.xs.length a.c] 25))).box; rw [World.size_alloc] at h9; exact h9); have kc := X8.out.kidAw hi4; have kf := X8.out.free (1 + i); clear hbv;  clear b6 ka kb))
      have HG6 := Lib.hid (show w.heap.size + 1 + 1 < w6.heap.size from X6.out.lt)
      obtain ⟨ga, hga⟩ : ∃ g, g = w6.heap.size := ⟨_, rfl⟩
      have HGA := Lib.hid hga
      have hd := Below.drew' (Below.refl ((w6.alloc (.cells #[.bool a.s, .slice a.a a.xs.length a.c] 25)).alloc (.cells #[.bool b.s, .slice b.a b.xs.length b.c] 25)).heap.size ((w6.alloc (.cells #[.bool a.s, .slice a.a a.xs.length a.c] 25)).alloc (.cells #[.bool b.s, .slice b.a b.xs.length b.c] 25)))
      refine wp_region_noPanic ?_
      refine wp_region_held (S := fun w' => w'.cell? ⟨w6.heap.size, 0, none⟩ = some (.bool a.s) ∧ w'.cell? ⟨w6.heap.size, 1, none⟩ = some (.slice a.a a.xs.length a.c) ∧ w'.cell? ⟨w6.heap.size + 1, 0, none⟩ = some (.bool b.s) ∧ w'.cell? ⟨w6.heap.size + 1, 1, none⟩ = some (.slice b.a b.xs.length b.c)) (by kernel_rfl) ?_
      obtain ⟨W0, hW0⟩ : ∃ W0 : World, W0 = ((w6.alloc (.cells #[.bool a.s, .slice a.a a.xs.length a.c] 25)).alloc (.cells #[.bool b.s, .slice b.a b.xs.length b.c] 25)).drew := ⟨_, rfl⟩
      rw [← hW0] at hd
      have A0 := Lib.hid (A8.out.next hd)
      have C0 := Lib.hid (C8.out.next hd)
      have X0 := Lib.hid (X8.out.stay (hd.block _ X8.out.lt))
      have O0 := Lib.hid (O8.out.stays hd)
      have L0 := Lib.hid (show Below w.heap.size w W0 by rw [hW0]; exact Below.drew' ((B6.out.trans (((Below.refl w6.heap.size w6).alloc (Nat.le_refl _) _).alloc (by simp) _ |>.mono B6.out.size))))
      change wpAnyH _ _ _ _ _ _ _ _ ((w6.alloc (.cells #[.bool a.s, .slice a.a a.xs.length a.c] 25)).alloc (.cells #[.bool b.s, .slice b.a b.xs.length b.c] 25)).drew
      rw [← hW0]
      clear hW0 hd kc kf hga a0 a1 a2 a3
      have hS0 := And.intro A0.out.c0 (And.intro A0.out.c1 (And.intro C0.out.c0 C0.out.c1))
      refine wpAnyH_take (i := 0) (v := ?_) rfl (by kernel_rfl) (by kernel_rfl) (by kernel_rfl) (fun _ _ _ h => h) (Or.inl ⟨by rfl, ?_⟩) hS0 ?_
      rotate_left
      · rintro w' ⟨s1, s2, s3, s4⟩
        go_simp
        first | done | with_reducible rfl | rfl
      simp only [Act.put, LA]
      refine wpAnyH_take (i := 1) (v := ?_) rfl (by kernel_rfl) (by kernel_rfl) (by kernel_rfl) (fun _ _ _ h => h) (Or.inl ⟨by rfl, ?_⟩) hS0 ?_
      rotate_left
      · rintro w' ⟨s1, s2, s3, s4⟩
        go_simp
        first | done | with_reducible rfl | rfl
      simp only [Act.put, LA]
      refine wpAnyH_take (i := 2) (v := ?_) rfl (by kernel_rfl) (by kernel_rfl) (by kernel_rfl) (fun _ _ _ h => h) (Or.inl ⟨by rfl, ?_⟩) hS0 ?_
      rotate_left
      · rintro w' ⟨s1, s2, s3, s4⟩
        go_simp
        first | done | with_reducible rfl | rfl
      simp only [Act.put, LA]
      refine wpAnyH_take (i := 3) (v := ?_) rfl (by kernel_rfl) (by kernel_rfl) (by kernel_rfl) (fun _ _ _ h => h) (Or.inl ⟨by rfl, ?_⟩) hS0 ?_
      rotate_left
      · rintro w' ⟨s1, s2, s3, s4⟩
        go_simp
        first | done | with_reducible rfl | rfl
      simp only [Act.put, LA]
      refine wpAnyH_take (i := 4) (v := ?_) rfl (by kernel_rfl) (by kernel_rfl) (by kernel_rfl) (fun _ _ _ h => h) (Or.inl ⟨by rfl, ?_⟩) hS0 ?_
      rotate_left
      · rintro w' ⟨s1, s2, s3, s4⟩
        go_simp
        first | done | with_reducible rfl | rfl
      simp only [Act.put, LA]
      refine wpAnyH_take (i := 5) (v := ?_) rfl (by kernel_rfl) (by kernel_rfl) (by kernel_rfl) (fun _ _ _ h => h) (Or.inl ⟨by rfl, ?_⟩) hS0 ?_
      rotate_left
      · rintro w' ⟨s1, s2, s3, s4⟩
        go_simp
        first | done | with_reducible rfl | rfl
      simp only [Act.put, LA]
      refine wpAnyH_take (i := 6) (v := ?_) rfl (by kernel_rfl) (by kernel_rfl) (by kernel_rfl) (fun _ _ _ h => h) (Or.inl ⟨by rfl, ?_⟩) hS0 ?_
      rotate_left
      · rintro w' ⟨s1, s2, s3, s4⟩
        go_simp
        first | done | with_reducible rfl | rfl
      simp only [Act.put, LA]
      refine wpAnyH_take (i := 8) (v := ?_) rfl (by kernel_rfl) (by kernel_rfl) (by kernel_rfl) (fun _ _ _ h => h) (Or.inl ⟨by rfl, ?_⟩) hS0 ?_
      rotate_left
      · rintro w' ⟨s1, s2, s3, s4⟩
        go_simp
        first | done | with_reducible rfl | rfl
      simp only [Act.put, LA]
      refine wpAnyH_take (i := 9) (v := ?_) rfl (by kernel_rfl) (by kernel_rfl) (by kernel_rfl) (fun _ _ _ h => h) (Or.inl ⟨by rfl, ?_⟩) hS0 ?_
      rotate_left
      · rintro w' ⟨s1, s2, s3, s4⟩
        go_simp
        first | done | with_reducible rfl | rfl
      simp only [Act.put, LA]
      refine wpAnyH_take (i := 10) (v := ?_) rfl (by kernel_rfl) (by kernel_rfl) (by kernel_rfl) (fun _ _ _ h => h) (Or.inl ⟨by rfl, ?_⟩) hS0 ?_
      rotate_left
      · rintro w' ⟨s1, s2, s3, s4⟩
        go_simp
        first | done | with_reducible rfl | rfl
      simp only [Act.put, LA]
      refine wpAnyH_take (i := 16) (v := ?_) rfl (by kernel_rfl) (by kernel_rfl) (by kernel_rfl) (fun _ _ _ h => h) (Or.inl ⟨by rfl, ?_⟩) hS0 ?_
      rotate_left
      · rintro w' ⟨s1, s2, s3, s4⟩
        go_simp
        first | done | with_reducible rfl | rfl
      simp only [Act.put, LA]
      refine wpAnyH_ready (rs := [7]) (by kernel_rfl) (by simp) (AllReadyH.cons rfl (fun K hK => ?_) AllReadyH.nil)
      have kc := X0.out.kidAw hi4
      go_simp
      refine hK.out _ _ hS0 (fun _ => ?_)
      clear hK K kc
      refine wpAnyH_ready (rs := [11]) (by kernel_rfl) (by simp) (AllReadyH.cons rfl (fun K hK => ?_) AllReadyH.nil)
      go_simp
      refine (HIH.out _ (x.kid i) a b (subI (p2 (m + 1)) X) (subI (p2 (m + 1)) Y) _ (by omega) O0.out (HKD.out i hi4) A0.out.r C0.out.r (sub_in HX.out) (sub_in HY.out) (Nat.le_trans hb L0.out.size)).mono ?_
      rw [← HRF.out]
      rintro e W1 ⟨v1, rfl, o1, vb1, k1⟩
      dsimp only
      obtain ⟨A1, c1, hv1, -, -, -⟩ := o1.shape
      subst hv1
      have O1 := Lib.hid o1
      have V1 := Lib.hid vb1
      have K1 := Lib.hid k1
      have X1 := Lib.hid (ky_new k1 X0.out (fun e => by have := (HVB.out _ e).2; omega))
      have BA1 := Lib.hid ((k1.block w6.heap.size A0.out.lt (fun e => by have := (HVB.out _ e).2; have := HG6.out; omega)).trans A0.out.box)
      have BC1 := Lib.hid ((k1.block (w6.heap.size + 1) C0.out.lt (fun e => by have := (HVB.out _ e).2; have := HG6.out; omega)).trans C0.out.box)
      have hS1 := And.intro (big_cells BA1.out).1 (And.intro (big_cells BA1.out).2 (big_cells BC1.out))
      refine hK.out _ _ hS1 (fun _ => ?_)
      clear hK K o1 vb1 k1
      refine wpAnyH_take (i := 12) (v := ?_) rfl (by kernel_rfl) (by kernel_rfl) (by kernel_rfl) (fun _ _ _ h => h) (Or.inl ⟨by rfl, ?_⟩) hS1 ?_
      rotate_left
      · rintro w' ⟨s1, s2, s3, s4⟩
        go_simp
        first | done | with_reducible rfl | rfl
      simp only [Act.put, LA]
      refine wpAnyH_take (i := 13) (v := ?_) rfl (by kernel_rfl) (by kernel_rfl) (by kernel_rfl) (fun _ _ _ h => h) (Or.inl ⟨by rfl, ?_⟩) hS1 ?_
      rotate_left
      · rintro w' ⟨s1, s2, s3, s4⟩
        go_simp
        first | done | with_reducible rfl | rfl
      simp only [Act.put, LA]
      refine wpAnyH_take (i := 14) (v := ?_) rfl (by kernel_rfl) (by kernel_rfl) (by kernel_rfl) (fun _ _ _ h => h) (Or.inl ⟨by rfl, ?_⟩) hS1 ?_
      rotate_left
      · rintro w' ⟨s1, s2, s3, s4⟩
        go_simp
        first | done | with_reducible rfl | rfl
      simp only [Act.put, LA]
      refine wpAnyH_take (i := 15) (v := ?_) rfl (by kernel_rfl) (by kernel_rfl) (by kernel_rfl) (fun _ _ _ h => h) (Or.inl ⟨by rfl, ?_⟩) hS1 ?_
      rotate_left
      · rintro w' ⟨s1, s2, s3, s4⟩
        go_simp
        first | done | with_reducible rfl | rfl
      simp only [Act.put, LA]
      refine wpAnyH_take (i := 17) (v := ?_) rfl (by kernel_rfl) (by kernel_rfl) (by kernel_rfl) (fun _ _ _ h => h) (Or.inl ⟨by rfl, ?_⟩) hS1 ?_
      rotate_left
      · rintro w' ⟨s1, s2, s3, s4⟩
        go_simp
        first | done | with_reducible rfl | rfl
      simp only [Act.put, LA]
      refine wpAnyH_ready (rs := [18]) (by kernel_rfl) (by simp) (AllReadyH.cons rfl (fun K hK => ?_) AllReadyH.nil)
      have kc := X1.out.kidAw hi4
      have kf := X1.out.free (1 + i)
      go_simp
      have z2 := X1.out.chK hi4 rfl r.2
      rw [← HZ.out] at z2
      have Z2 := Lib.hid z2
      have O2 := Lib.hid (O1.out.gbr (gb_setCell _ ⟨w.heap.size + 1 + 1, 1 + i, none⟩ (.int .i64 r.2)) (own_dec fun k hk e => by have h5 := Option.some.inj e; dsimp only at h5; have := X0.out.lt; rcases V1.out k hk with h | h <;> first | (have := (HVB.out k h).2; omega) | omega))
      have y0 := Lib.hid ((Below.refl (w.heap.size + 1 + 1) W1).setCell (p := ⟨w.heap.size + 1 + 1, 1 + i, none⟩) (Nat.le_refl _) (.int .i64 r.2))
      refine hK.out _ _ (And.intro (big_cells ((Below.heap_setCell _ _ _ _ (show w6.heap.size ≠ w.heap.size + 1 + 1 by have := HG6.out; omega)).trans BA1.out)).1 (And.intro (big_cells ((Below.heap_setCell _ _ _ _ (show w6.heap.size ≠ w.heap.size + 1 + 1 by have := HG6.out; omega)).trans BA1.out)).2 (big_cells ((Below.heap_setCell _ _ _ _ (show w6.heap.size + 1 ≠ w.heap.size + 1 + 1 by have := HG6.out; omega)).trans BC1.out)))) (fun _ => ?_)
      clear hK K kc kf
      refine wpAnyH_done (by kernel_rfl) ?_ _
      refine NoPanic.normal ?_
      obtain ⟨x0, x1, x2, x3, x4⟩ := Z2.out.cells
      have hbs := y0.out.size
      have HBS := Lib.hid (show base ≤ (W1.setCell ⟨w.heap.size + 1 + 1, 1 + i, none⟩ (.int .i64 r.2)).heap.size from Nat.le_trans hb (Nat.le_trans L0.out.size (Nat.le_trans K1.out.size hbs)))
      go_wp2_with (at_builtin; go_loud (refine wpList_append_nodes _ rfl _ _ rfl base _ r.1 [z] _ 1 1 rfl rfl (O2.out.alloc _) (ns_lit1 _ _ z HZW.out (by simp [World.setCell])) rfl (fun e => by cases e) (by have := HRL.out; have := HL.out; omega) (by have := HBS.out; simp [World.setCell] at this ⊢; omega) ?_; intro v9 w9 ho9 hg9 hk9; obtain ⟨A9, c9, hv9, -, -, -⟩ := ho9.shape; rw [List.length_append, List.length_singleton] at hv9; subst hv9; have HO9 := Lib.hid ho9; have HG9 := Lib.hid hg9; have HK9 := Lib.hid hk9; clear ho9 hg9 hk9))
      rw [HRR.out, HPF.out]
      refine ⟨.slice A9 (r.1.length + 1) c9, ?_, HO9.out, fun k hk => ?_, ?_⟩
      · show Ending.returned (.tuple #[.slice A9 (r.1.length + 1) c9, .int .i64 ((r.1.length : Int) + 1)]) = .returned (.tuple #[.slice A9 (r.1.length + 1) c9, .int .i64 ((r.1.length + 1 : Nat) : Int)])
        exact ret2_int (by omega)
      · rcases HK9.out with h | h
        · rcases V1.out k (h.symm.trans hk) with h2 | h2
          · exact .inl h2
          · exact .inr (Nat.le_trans L0.out.size h2)
        · rw [h] at hk
          have h3 := Option.some.inj hk
          have h4 := L0.out.size
          have h5 := K1.out.size
          simp [World.setCell] at h3
          exact .inr (by omega)
      · refine (((((Ky.refl (fun k => (Value.slice A n c).ownBlock = some k) w).below L0.out).trans K1.out (fun _ _ h => h)).set ⟨w.heap.size + 1 + 1, 1 + i, none⟩ (fun h => absurd h (by show ¬ w.heap.size + 1 + 1 < w.heap.size; omega)) _).alloc _).gb HG9.out (fun q hq e => ?_)
        rcases V1.out q e with h2 | h2
        · exact h2
        · have := L0.out.size; omega
end Go.Proofs.Ytlnmcilcifbcnaa

namespace Go.Proofs.Ytlnmcilcifbcnaa
open Go.RowKit Num Nds
theorem inR_ref {X Y : Int} {M : Nat} (hM : M = max (rcI X) (rcI Y)) : M ≤ 1328 ↔ inR X ∧ inR Y := by
 unfold inR
 rw [← rc_iff X 1328, ← rc_iff Y 1328, hM]
 omega
theorem rgrow_at (A : Option Addr) (c n m : Nat) (q G : List Nd) (gl : Nat) (hG : G = growQ (m + 1) q) (hgl : gl = G.length) (w : World) (h : Ns w A c q) (hn : q.length = n) (hn9 : n ≤ 800000) (hl : looseB q = true) (hlv : m ≤ 1328) (hA : A = none → c = 0) :
  Calls Try.prog 49 #[.agg #[.slice A n c], .int .i64 ((m : Int) + 1)] w fun e w' => ∃ v, e = .returned (.tuple #[v, .int .i64 (gl : Int)]) ∧ OwnN w' w.heap.size v G ∧ Below w.heap.size w w' := by
 have h1 := rgrow_lk A c n (m + 1) q w h hn hn9 hl (by omega) hA
 rw [← hG, ← hgl, show ((m + 1 : Nat) : Int) = (m : Int) + 1 by omega] at h1
 exact h1
theorem rput_at (base k gl m : Nat) (v : Value) (q G : List Nd) (X Y : Int) (r : List Nd × Int) (hG : G = growQ (m + 1) q) (hgl : gl = G.length) (hr : r = setF (m + 1) q X Y (k : Int)) (hq : QS q) (hq9 : q.length ≤ 800000) (hlv : levelZ q ≤ (m : Int) + 1) (hm : m ≤ 1328) (hk : k ≤ 255)
  (hX : -p2 m ≤ X ∧ X < p2 m) (hY : -p2 m ≤ Y ∧ Y < p2 m) (u t : Bw) (w : World) (hu : u.R w (X + p2 m)) (ht : t.R w (Y + p2 m)) (how : OwnN w base v G) (hb : base ≤ w.heap.size) :
  Calls Try.prog 50 #[v, .int .i64 ((m : Int) + 1), .int .i64 (gl : Int), u.val, t.val, .int .u8 (k : Int)] w fun e w' => ∃ A4 c4, e = .returned (.tuple #[.slice A4 r.1.length c4, .int .i64 r.2]) ∧ Ns w' A4 c4 r.1 ∧ (A4 = none → c4 = 0) ∧ Ky (fun b => v.ownBlock = some b) w w' := by
 obtain ⟨g1, g2, g3⟩ := grow_ok hq (lv := m + 1) (by omega) (by omega) (by omega)
 rw [← hG] at g1 g2 g3
 rw [← hgl] at g2 g3
 have e := p2_succ m
 have h1 := rput_rec base k G g1 (by omega) hk m v (gl : Int) u t (X + p2 m) (Y + p2 m) w hm how g2 hu ht ⟨by omega, by omega⟩ ⟨by omega, by omega⟩ hb
 have hr2 : putF (m + 1) G (gl : Int) (X + p2 m) (Y + p2 m) (k : Int) = r := by
  rw [hr, setF_grow, ← hG, ← hgl]
  rfl
 rw [hr2] at h1
 refine h1.mono ?_
 rintro e w' ⟨v2, rfl, o2, -, k2⟩
 obtain ⟨A4, c4, hv, h4, h5, -⟩ := o2.shape
 exact ⟨A4, c4, by rw [hv], h4, h5, k2⟩
theorem inM_low {X Y : Int} {M j : Nat} (hM : M = max (rcI X) (rcI Y)) : (inM X j = true ∧ inM Y j = true) ↔ M ≤ j := by
 rw [inM_iff, inM_iff, hM]
 omega
set_option maxHeartbeats 6400000 in
theorem rset_lk (A A1 A2 : Option Addr) (c n d1 d2 : Nat) (s t : Bool) (q : List Nd) (xs ys : List Nat) (k : Nat) (w : World) (h : Ns w A c q) (hn : q.length = n) (hn9 : n ≤ 800000) (hA : A = none → c = 0) (hq : QS q) (hx : Us w A1 d1 xs) (hy : Us w A2 d2 ys) (kx : CanonI s xs) (ky : CanonI t ys) (hl : xs.length ≤ 50000) (kl : ys.length ≤ 50000) (hk : k ≤ 255) :
  Calls Try.prog 15 #[.agg #[.slice A n c], .agg #[.bool s, .slice A1 xs.length d1], .agg #[.bool t, .slice A2 ys.length d2], .int .u8 (k : Int)] w (RetLk q (ival s xs) (ival t ys) (k : Int) w) := by
 have hcap := h.cap
 rw [hn] at hcap
 have xcap := hx.cap
 have ycap := hy.cap
 obtain ⟨RR, hRR⟩ : ∃ RR, RR = RetLk q (ival s xs) (ival t ys) (k : Int) w := ⟨_, rfl⟩
 rw [← hRR]
 have HRR := Lib.hid hRR
 obtain ⟨X, hX⟩ : ∃ X, X = ival s xs := ⟨_, rfl⟩
 obtain ⟨Y, hY⟩ : ∃ Y, Y = ival t ys := ⟨_, rfl⟩
 obtain ⟨W, hW⟩ : ∃ W : World, W = ((((w.alloc (.cells #[.slice A n c] 31)).alloc (.cells #[.bool s, .slice A1 xs.length d1] 25)).alloc (.cells #[.bool t, .slice A2 ys.length d2] 25)).alloc (.cells #[.slice none 0 0] 31)) := ⟨_, rfl⟩
 have hS : StW w W A c n q s A1 d1 xs t A2 d2 ys := by rw [hW]; exact StW.start w A c n q s A1 d1 xs t A2 d2 ys h hx hy
 obtain ⟨lq, hlq⟩ : ∃ lq, lq = levelZ q := ⟨_, rfl⟩
 obtain ⟨M, hM⟩ : ∃ M : Nat, M = max (rcI X) (rcI Y) := ⟨_, rfl⟩
 have hlm := level_most hq.1
 rw [← hlq] at hlm
 have hin := inR_ref hM
 have hout : 1329 ≤ M → getQ q X Y = 0 := fun h9 => getQ_out hq.1 (by rw [← hlq, ← hM]; omega)
 obtain ⟨j0, hj0, hj09⟩ : ∃ j0 : Nat, max lq 1 = (j0 : Int) + 1 ∧ j0 ≤ 1328 := ⟨(max lq 1 - 1).toNat, by omega, by omega⟩
 have HXV := Lib.hid hX
 have HYV := Lib.hid hY
 have HIN := Lib.hid hin
 have HLOW := Lib.hid (fun j => inM_low (j := j) hM)
 have HOUT := Lib.hid hout
 have S0 := Lib.hid hS
 have HW := Lib.hid hW
 have KX := Lib.hid kx
 have KY := Lib.hid ky
 have HLE := Lib.hid hn
 have HQ := Lib.hid hq
 have HLQ := Lib.hid hlq
 have HM := Lib.hid hM
 have HA := Lib.hid hA
 obtain ⟨a0, x1, x2, y1, y2, r0, rf⟩ := hS.at_
 rw [hW] at a0 x1 x2 y1 y2 r0 rf
 clear h hn hq hx hy kx ky hS hlq hM hin hout hW hA hRR hX hY
 go_enter Try.func15, Try.ntmps15
 go_wp2_with (go_at_call 47; rw [← HW.out]; go_loud (refine (rlevel_any A c n q _ S0.out.ns HLE.out).mono ?_; rintro e w1 ⟨rfl, b1⟩; rw [← HLQ.out]; have S1 := Lib.hid (S0.out.next b1); clear b1))
 clear a0 x1 x2 y1 y2 r0 rf
 go_loopw [10] (fun z10 wr => ∃ j : Nat, z10 = .int .i64 ((j : Int) + 1) ∧ j0 ≤ j ∧ j ≤ 1329 ∧ (j = j0 ∨ j ≤ M) ∧ StW w wr A c n q s A1 d1 xs t A2 d2 ys) (fun z10 _ => 1331 - (intOf z10).toNat)
 case atStart => exact ⟨j0, rfl, Nat.le_refl _, by omega, .inl rfl, S1.out⟩
 case round =>
  obtain ⟨j, rfl, hj1, hj2, hj3, hs⟩ := hrel
  have S2 := Lib.hid hs
  obtain ⟨a0, x1, x2, y1, y2, r0, rf⟩ := hs.at_
  clear hs
  by_cases hj9 : j ≤ 1328
  ·
   have tl : decide ((j : Int) + 1 ≤ 1329) = true := decide_eq_true (by omega)
   have q0 : True := trivial
   have hlow := HLOW.out j
   cases hbx : inM X j with
   | false =>
    have HBX := Lib.hid hbx
    have HJM := Lib.hid (show j < M from Nat.lt_of_not_le (fun h9 => by have := (hlow.2 h9).1; rw [hbx] at this; cases this))
    clear hbx hlow
    go_wp2_with (first
   | (have _t := q0; go_at_call 48; clear _t; go_loud (refine (rin_lk s A1 d1 xs j _ S2.out.ux KX.out hl (by omega)).mono ?_; rintro e w3 ⟨rfl, b3⟩; rw [← HXV.out, HBX.out]; have S3 := Lib.hid (S2.out.next b3); obtain ⟨a0, x1, x2, y1, y2, r0, rf⟩ := S3.out.at_; clear b3; have q1 := q0; clear q0)))
    go_roundw
    case rel => exact ⟨j + 1, by go_num, by omega, by omega, .inr HJM.out, S3.out⟩
    case measure => simp [intOf]; omega
   | true =>
    have HBX := Lib.hid hbx
    cases hby : inM Y j with
    | false =>
     have HBY := Lib.hid hby
     have HJM := Lib.hid (show j < M from Nat.lt_of_not_le (fun h9 => by have := (hlow.2 h9).2; rw [hby] at this; cases this))
     clear hbx hby hlow
     go_wp2_with (first
   | (have _t := q0; go_at_call 48; clear _t; go_loud (refine (rin_lk s A1 d1 xs j _ S2.out.ux KX.out hl (by omega)).mono ?_; rintro e w3 ⟨rfl, b3⟩; rw [← HXV.out, HBX.out]; have S3 := Lib.hid (S2.out.next b3); obtain ⟨a0, x1, x2, y1, y2, r0, rf⟩ := S3.out.at_; clear b3; have q1 := q0; clear q0))
   | (have _t := q1; go_at_call 48; clear _t; go_loud (refine (rin_lk t A2 d2 ys j _ S3.out.uy KY.out kl (by omega)).mono ?_; rintro e w4 ⟨rfl, b4⟩; rw [← HYV.out, HBY.out]; have S4 := Lib.hid (S3.out.next b4); obtain ⟨a0, x1, x2, y1, y2, r0, rf⟩ := S4.out.at_; clear b4; have q2 := q1; clear q1)))
     go_roundw
     case rel => exact ⟨j + 1, by go_num, by omega, by omega, .inr HJM.out, S4.out⟩
     case measure => simp [intOf]; omega
    | true =>
     have HBY := Lib.hid hby
     have hMj : M ≤ j := hlow.1 ⟨hbx, hby⟩
     clear hbx hby hlow
     have tg : decide ((j : Int) + 1 > 1329) = false := decide_eq_false (by omega)
     have tg' : decide ((1329 : Int) < (j : Int) + 1) = false := tg
     have hlj : levelZ q ≤ (j : Int) + 1 := by have := HLQ.out; omega
     have hXr := (rc_iff X j).1 (by have := HM.out; omega)
     have hYr := (rc_iff Y j).1 (by have := HM.out; omega)
     have HXR := Lib.hid hXr
     have HYR := Lib.hid hYr
     have HLJ := Lib.hid hlj
     obtain ⟨G, hG⟩ : ∃ G, G = growQ (j + 1) q := ⟨_, rfl⟩
     obtain ⟨gl, hgl⟩ : ∃ gl, gl = G.length := ⟨_, rfl⟩
     obtain ⟨r, hr⟩ : ∃ r, r = setF (j + 1) q X Y (k : Int) := ⟨_, rfl⟩
     obtain ⟨p1, p2_, p3⟩ := set_spec HQ.out (lv := j + 1) (by omega) (by omega) (fun h0 => by have h1 := hlj; unfold levelZ at h1; rw [if_neg (fun e => by rw [e] at h0; exact absurd h0 (Nat.lt_irrefl 0))] at h1; omega) (X := X) (Y := Y) (s := (k : Int)) hXr hYr (by omega)
     rw [← hr] at p1 p2_ p3
     have hgl9 : gl ≤ 810000 := by have := (grow_ok HQ.out (lv := j + 1) (by omega) (by omega) (by omega)).2.2; have := HLE.out; rw [hgl, hG]; omega
     obtain ⟨q2, hq2⟩ : ∃ q2, q2 = ofQ r.1 r.2 := ⟨_, rfl⟩
     have HQN := Lib.hid (show q2.length ≤ q.length + 12 * 1329 by rw [hq2]; have := ofQ_len r.1 r.2; omega)
     have HER := Lib.hid (show ofE r.1 r.2 = 0 by unfold ofE; rw [if_pos p1])
     rw [← hq2] at p2_
     have hq29 : q2.length ≤ 900000 := by have := HQN.out; have := HLE.out; omega
     have HSO := Lib.hid p2_
     have HRN := Lib.hid (show r.1.length ≤ 880000 by have := HLE.out; omega)
     have HQ2 := Lib.hid hq2
     have HG := Lib.hid hG
     have HGL := Lib.hid hgl
     have HRF := Lib.hid hr
     have e2 := p2_mono (show j + 1 ≤ 1330 by omega)
     have e3 := p2_pos j
     have e4 := p2_succ j
     have HPM := Lib.hid (show -p2 1330 ≤ p2 j ∧ p2 j ≤ p2 1330 from ⟨by omega, by omega⟩)
     have HXP := Lib.hid (show -p2 1330 ≤ X + p2 j ∧ X + p2 j ≤ p2 1330 from ⟨by omega, by omega⟩)
     have f0 : IntKind.i64.wrap ((j : Int) + 1 - 1) = (j : Int) := by rw [show (j : Int) + 1 - 1 = (j : Int) by omega]; exact IntWalk.i64_in _ (by omega)
     clear hXr hYr hG hgl hr p1 p2_ p3 hq2 e2 e3 e4 hlj
     go_wp2_with (first
   | (have _t := q0; go_at_call 48; clear _t; go_loud (refine (rin_lk s A1 d1 xs j _ S2.out.ux KX.out hl (by omega)).mono ?_; rintro e w3 ⟨rfl, b3⟩; rw [← HXV.out, HBX.out]; have S3 := Lib.hid (S2.out.next b3); obtain ⟨a0, x1, x2, y1, y2, r0, rf⟩ := S3.out.at_; clear b3; have q1 := q0; clear q0))
   | (have _t := q1; go_at_call 48; clear _t; go_loud (refine (rin_lk t A2 d2 ys j _ S3.out.uy KY.out kl (by omega)).mono ?_; rintro e w4 ⟨rfl, b4⟩; rw [← HYV.out, HBY.out]; have S4 := Lib.hid (S3.out.next b4); obtain ⟨a0, x1, x2, y1, y2, r0, rf⟩ := S4.out.at_; clear b4; have q2 := q1; clear q1))
   | (have _t := q2; go_at_call 49; clear _t; go_loud (refine (rgrow_at A c n j q G gl HG.out HGL.out _ S4.out.ns HLE.out hn9 HQ.out.1 hj9 HA.out).mono ?_; rintro e w5 ⟨v5, rfl, o5, b5⟩; have S5 := Lib.hid (S4.out.next b5); obtain ⟨a0, x1, x2, y1, y2, r0, rf⟩ := S5.out.at_; obtain ⟨E, hE⟩ : ∃ E, E = w4.heap.size := ⟨_, rfl⟩; rw [← hE] at o5; have HE := Lib.hid (show w.heap.size + 1 + 1 + 1 < E ∧ E ≤ w5.heap.size by rw [hE]; exact ⟨heap_lt S4.out.br, b5.size⟩); have O5 := Lib.hid o5; clear b5 o5 hE; have q3 := q2; clear q2))
   | (have _t := q3; go_at_call 36; clear _t; go_loud (refine (rbpow_any _ _).mono ?_; rintro e w6 h6; rw [pow_p2 j (by omega)] at h6; obtain ⟨h, rfl, k6, b6⟩ := retI_bw h6; have L6 := Lib.hid (bw_len k6 HPM.out.1 HPM.out.2); have hch := k6.us.cap; have hbl := (Below.refl w6.heap.size w6).alloc (Nat.le_refl _) (.cells #[.bool h.s, .slice h.a h.xs.length h.c] 25); have S6 := Lib.hid (S5.out.next (b6.trans (hbl.mono b6.size))); have H6 := Lib.hid (show h.B (w6.alloc (.cells #[.bool h.s, .slice h.a h.xs.length h.c] 25)) w6.heap.size (p2 j) from k6.box); have O6 := Lib.hid (O5.out.stays (b6.trans (hbl.mono b6.size))); have Z6 := Lib.hid (show w5.heap.size ≤ w6.heap.size from b6.size); obtain ⟨a0, x1, x2, y1, y2, r0, rf⟩ := S6.out.at_; have h1 := k6.box.c0; have h2 := k6.box.c1; clear k6 b6 h6 hbl; have q4 := q3; clear q3)))
     have HG6 := Lib.hid (show w5.heap.size ≤ w6.heap.size from Z6.out)
     have SD := Lib.hid (S6.out.next (Below.drew' (Below.refl _ _)))
     have HD := Lib.hid (H6.out.next (Below.drew' (Below.refl _ _)))
     have OD := Lib.hid (O6.out.stays (Below.drew' (Below.refl _ _)))
     obtain ⟨gh, hgh⟩ : ∃ g, g = w6.heap.size := ⟨_, rfl⟩
     have HGH := Lib.hid (show w5.heap.size ≤ gh by rw [hgh]; exact Z6.out)
     rw [← hgh] at H6 HD h1 h2 ⊢
     clear hgh
     refine wp_region_noPanic ?_
     refine wp_region_held (S := fun w' => w'.cell? ⟨w.heap.size + 1, 0, none⟩ = some (.bool s) ∧ w'.cell? ⟨w.heap.size + 1, 1, none⟩ = some (.slice A1 xs.length d1) ∧ w'.cell? ⟨w.heap.size + 1 + 1, 0, none⟩ = some (.bool t) ∧ w'.cell? ⟨w.heap.size + 1 + 1, 1, none⟩ = some (.slice A2 ys.length d2) ∧ w'.cell? ⟨gh, 0, none⟩ = some (.bool h.s) ∧ w'.cell? ⟨gh, 1, none⟩ = some (.slice h.a h.xs.length h.c)) (by kernel_rfl) ?_
     obtain ⟨W0, hW0⟩ : ∃ W0 : World, W0 = (w6.alloc (.cells #[.bool h.s, .slice h.a h.xs.length h.c] 25)).drew := ⟨_, rfl⟩
     rw [← hW0] at SD HD OD
     change wpAnyH _ _ _ _ _ _ _ _ (w6.alloc (.cells #[.bool h.s, .slice h.a h.xs.length h.c] 25)).drew
     rw [← hW0]
     clear hW0 a0 x1 x2 y1 y2 r0 rf h1 h2
     have hS0 := (And.intro SD.out.at_.2.1 (And.intro SD.out.at_.2.2.1 (And.intro SD.out.at_.2.2.2.1 (And.intro SD.out.at_.2.2.2.2.1 (And.intro HD.out.c0 HD.out.c1)))))
     refine wpAnyH_take (i := 0) (v := ?_) rfl (by kernel_rfl) (by kernel_rfl) (by kernel_rfl) (fun _ _ _ h => h) (Or.inl ⟨by rfl, ?_⟩) hS0 ?_
     rotate_left
     ·
      rintro w' ⟨s1, s2, s3, s4, s5, s6⟩
      go_simp
      first | done | with_reducible rfl | rfl
     simp only [Act.put, LA]
     refine wpAnyH_take (i := 1) (v := ?_) rfl (by kernel_rfl) (by kernel_rfl) (by kernel_rfl) (fun _ _ _ h => h) (Or.inl ⟨by rfl, ?_⟩) hS0 ?_
     rotate_left
     ·
      rintro w' ⟨s1, s2, s3, s4, s5, s6⟩
      go_simp
      first | done | with_reducible rfl | rfl
     simp only [Act.put, LA]
     refine wpAnyH_take (i := 2) (v := ?_) rfl (by kernel_rfl) (by kernel_rfl) (by kernel_rfl) (fun _ _ _ h => h) (Or.inl ⟨by rfl, ?_⟩) hS0 ?_
     rotate_left
     ·
      rintro w' ⟨s1, s2, s3, s4, s5, s6⟩
      go_simp
      first | done | with_reducible rfl | rfl
     simp only [Act.put, LA]
     refine wpAnyH_take (i := 3) (v := ?_) rfl (by kernel_rfl) (by kernel_rfl) (by kernel_rfl) (fun _ _ _ h => h) (Or.inl ⟨by rfl, ?_⟩) hS0 ?_
     rotate_left
     ·
      rintro w' ⟨s1, s2, s3, s4, s5, s6⟩
      go_simp
      first | done | with_reducible rfl | rfl
     simp only [Act.put, LA]
     refine wpAnyH_take (i := 4) (v := ?_) rfl (by kernel_rfl) (by kernel_rfl) (by kernel_rfl) (fun _ _ _ h => h) (Or.inl ⟨by rfl, ?_⟩) hS0 ?_
     rotate_left
     ·
      rintro w' ⟨s1, s2, s3, s4, s5, s6⟩
      go_simp
      first | done | with_reducible rfl | rfl
     simp only [Act.put, LA]
     refine wpAnyH_take (i := 6) (v := ?_) rfl (by kernel_rfl) (by kernel_rfl) (by kernel_rfl) (fun _ _ _ h => h) (Or.inl ⟨by rfl, ?_⟩) hS0 ?_
     rotate_left
     ·
      rintro w' ⟨s1, s2, s3, s4, s5, s6⟩
      go_simp
      first | done | with_reducible rfl | rfl
     simp only [Act.put, LA]
     refine wpAnyH_take (i := 7) (v := ?_) rfl (by kernel_rfl) (by kernel_rfl) (by kernel_rfl) (fun _ _ _ h => h) (Or.inl ⟨by rfl, ?_⟩) hS0 ?_
     rotate_left
     ·
      rintro w' ⟨s1, s2, s3, s4, s5, s6⟩
      go_simp
      first | done | with_reducible rfl | rfl
     simp only [Act.put, LA]
     refine wpAnyH_take (i := 9) (v := ?_) rfl (by kernel_rfl) (by kernel_rfl) (by kernel_rfl) (fun _ _ _ h => h) (Or.inl ⟨by rfl, ?_⟩) hS0 ?_
     rotate_left
     ·
      rintro w' ⟨s1, s2, s3, s4, s5, s6⟩
      go_simp
      first | done | with_reducible rfl | rfl
     simp only [Act.put, LA]
     refine wpAnyH_ready (rs := [5]) (by kernel_rfl) (by simp) (AllReadyH.cons rfl (fun K hK => ?_) AllReadyH.nil)
     go_simp
     refine (rbadd_any s h.s A1 h.a d1 h.c xs h.xs _ SD.out.ux HD.out.r.us (by omega) (by have := L6.out; omega)).mono ?_
     rintro e w7 ⟨A7, c7, s7, r7, rfl, u7, k7, v7, b7⟩
     rw [← HXV.out, HD.out.r.v] at v7
     dsimp only
     have hca := u7.cap
     have S7 := Lib.hid (SD.out.next b7)
     have H7 := Lib.hid (HD.out.next b7)
     have O7 := Lib.hid (OD.out.stays b7)
     have K7 := Lib.hid (show (⟨s7, A7, c7, r7⟩ : Bw).R w7 (X + p2 j) from ⟨u7, k7, v7⟩)
     refine hK.out _ _ (And.intro S7.out.at_.2.1 (And.intro S7.out.at_.2.2.1 (And.intro S7.out.at_.2.2.2.1 (And.intro S7.out.at_.2.2.2.2.1 (And.intro H7.out.c0 H7.out.c1))))) (fun _ => ?_)
     clear hK K u7 k7 v7 b7
     refine wpAnyH_ready (rs := [8]) (by kernel_rfl) (by simp) (AllReadyH.cons rfl (fun K hK => ?_) AllReadyH.nil)
     go_simp
     refine (rbadd_any t h.s A2 h.a d2 h.c ys h.xs _ S7.out.uy H7.out.r.us (by omega) (by have := L6.out; omega)).mono ?_
     rintro e w8 ⟨A8, c8, s8, r8, rfl, u8, k8, v8, b8⟩
     rw [← HYV.out, H7.out.r.v] at v8
     dsimp only
     have hcb := u8.cap
     have S8 := Lib.hid (S7.out.next b8)
     have H8 := Lib.hid (H7.out.next b8)
     have O8 := Lib.hid (O7.out.stays b8)
     have KA := Lib.hid (K7.out.next b8)
     have KB := Lib.hid (show (⟨s8, A8, c8, r8⟩ : Bw).R w8 (Y + p2 j) from ⟨u8, k8, v8⟩)
     refine hK.out _ _ (And.intro S8.out.at_.2.1 (And.intro S8.out.at_.2.2.1 (And.intro S8.out.at_.2.2.2.1 (And.intro S8.out.at_.2.2.2.2.1 (And.intro H8.out.c0 H8.out.c1))))) (fun _ => ?_)
     clear hK K u8 k8 v8 b8
     refine wpAnyH_ready (rs := [10]) (by kernel_rfl) (by simp) (AllReadyH.cons rfl (fun K hK => ?_) AllReadyH.nil)
     go_simp
     refine (rput_at E k gl j v5 q G X Y r HG.out HGL.out HRF.out HQ.out (by have := HLE.out; omega) HLJ.out hj9 hk HXR.out HYR.out ⟨s7, A7, c7, r7⟩ ⟨s8, A8, c8, r8⟩ _ KA.out KB.out O8.out (Nat.le_of_lt (Nat.lt_of_le_of_lt (Nat.le_trans HE.out.2 HGH.out) H8.out.lt))).mono ?_
     rintro e w9 ⟨A4, c4, rfl, n9, a9, k9⟩
     dsimp only
     have R8 := Lib.hid ((k9.block _ (heap_lt S8.out.br) (fun e => by have := (O8.out.lt _ e).1; have := HE.out.1; omega)).trans S8.out.br)
     obtain ⟨x1, x2⟩ := big_cells ((k9.block _ (heap_lt S8.out.bx) (fun e => by have := (O8.out.lt _ e).1; have := HE.out.1; omega)).trans S8.out.bx)
     obtain ⟨y1, y2⟩ := big_cells ((k9.block _ (heap_lt S8.out.by_) (fun e => by have := (O8.out.lt _ e).1; have := HE.out.1; omega)).trans S8.out.by_)
     obtain ⟨h1, h2⟩ := big_cells ((k9.block gh H8.out.lt (fun e => by have := (O5.out.lt _ e).2; have := HGH.out; omega)).trans H8.out.box)
     have B8 := Lib.hid (S8.out.b.trans (k9.to (B := w.heap.size) S8.out.b.size (fun i hi => by have := (O8.out.lt _ hi).1; have := HE.out.1; omega)))
     have N8 := Lib.hid n9
     have HA8 := Lib.hid a9
     have hc4 := n9.cap
     have hS9 := And.intro x1 (And.intro x2 (And.intro y1 (And.intro y2 (And.intro h1 h2))))
     refine hK.out _ _ hS9 (fun _ => ?_)
     clear hK K n9 a9 k9
     refine wpAnyH_take (i := 11) (v := ?_) rfl (by kernel_rfl) (by kernel_rfl) (by kernel_rfl) (fun _ _ _ h => h) (Or.inl ⟨by rfl, ?_⟩) hS9 ?_
     rotate_left
     ·
      rintro w' ⟨s1, s2, s3, s4, s5, s6⟩
      go_simp
      first | done | with_reducible rfl | rfl
     simp only [Act.put, LA]
     refine wpAnyH_take (i := 12) (v := ?_) rfl (by kernel_rfl) (by kernel_rfl) (by kernel_rfl) (fun _ _ _ h => h) (Or.inl ⟨by rfl, ?_⟩) hS9 ?_
     rotate_left
     ·
      rintro w' ⟨s1, s2, s3, s4, s5, s6⟩
      go_simp
      first | done | with_reducible rfl | rfl
     simp only [Act.put, LA]
     refine wpAnyH_take (i := 13) (v := ?_) rfl (by kernel_rfl) (by kernel_rfl) (by kernel_rfl) (fun _ _ _ h => h) (Or.inl ⟨by rfl, ?_⟩) hS9 ?_
     rotate_left
     ·
      rintro w' ⟨s1, s2, s3, s4, s5, s6⟩
      go_simp
      first | done | with_reducible rfl | rfl
     simp only [Act.put, LA]
     refine wpAnyH_take (i := 14) (v := ?_) rfl (by kernel_rfl) (by kernel_rfl) (by kernel_rfl) (fun _ _ _ h => h) (Or.inl ⟨by rfl, ?_⟩) hS9 ?_
     rotate_left
     ·
      rintro w' ⟨s1, s2, s3, s4, s5, s6⟩
      go_simp
      first | done | with_reducible rfl | rfl
     simp only [Act.put, LA]
     refine wpAnyH_take (i := 15) (v := ?_) rfl (by kernel_rfl) (by kernel_rfl) (by kernel_rfl) (fun _ _ _ h => h) (Or.inl ⟨by rfl, ?_⟩) hS9 ?_
     rotate_left
     ·
      rintro w' ⟨s1, s2, s3, s4, s5, s6⟩
      go_simp
      first | done | with_reducible rfl | rfl
     simp only [Act.put, LA]
     refine wpAnyH_done (by kernel_rfl) ?_ _
     refine NoPanic.normal ?_
     have q7 : True := trivial
     go_wp2_with (first
   | (have _t := q7; go_at_call 21; clear _t; go_loud (refine (rof_any A4 c4 r.1.length r.1 r.2 _ N8.out rfl (by have := HRN.out; omega) HA8.out).mono ?_; rintro e w10 ⟨A9, c9, rfl, n9, a9, b9⟩; rw [← HQ2.out] at n9 ⊢; rw [HER.out]; have R9 := Lib.hid ((b9.block _ (heap_lt R8.out)).trans R8.out); have B9 := Lib.hid (B8.out.trans (b9.mono B8.out.size)); have r0 := one_cell R9.out; have rf := one_free R9.out; have N9 := Lib.hid n9; have HA9 := Lib.hid a9; clear b9 n9 a9; have q8 := q7; clear q7)))
     have e1 := World.cell?_setCell_same _ _ (.slice A9 q2.length c9) r0
     refine bodyPost_ret (v := .tuple #[.agg #[.slice A9 q2.length c9], .int .i64 0]) (by simp [results, Try.results15, go_sem, e1]) rfl ?_
     rw [HRR.out]
     refine ⟨A9, c9, q2, 0, rfl, ns_boxed N9.out R9.out, HA9.out, B9.out.setCell (by show w.heap.size ≤ w.heap.size + 1 + 1 + 1; omega) _, by have := HQN.out; omega, ?_⟩
     unfold SetE
     rw [← HXV.out, ← HYV.out, if_neg (fun h => h.2 (HIN.out.1 (by omega)))]
     exact ⟨rfl, HSO.out⟩
  ·
   obtain rfl : j = 1329 := by omega
   have tl : decide (((1329 : Nat) : Int) + 1 ≤ 1329) = false := rfl
   have hM9 : 1329 ≤ M := by omega
   have tg : decide (((1329 : Nat) : Int) + 1 > 1329) = true := rfl
   by_cases hk0 : k = 0
   ·
    subst hk0
    go_wp2_with fail
    have e1 := World.cell?_setCell_same _ _ (.slice A n c) r0
    refine bodyPost_ret (v := .tuple #[.agg #[.slice A n c], .int .i64 0]) (by simp [results, Try.results15, go_sem, e1]) rfl ?_
    rw [HRR.out]
    refine ⟨A, c, q, 0, by rw [HLE.out], ns_boxed S2.out.ns S2.out.br, HA.out, S2.out.done _, by omega, ?_⟩
    unfold SetE
    rw [← HXV.out, ← HYV.out, if_neg (fun h => h.1 rfl)]
    exact ⟨rfl, set_same HQ.out (HOUT.out hM9).symm⟩
   ·
    have tk : (((k : Nat) : Int) == 0) = false := by rw [beq_eq_false_iff_ne]; omega
    go_wp2_with fail
    have e1 := World.cell?_setCell_same _ _ (.slice none 0 0) r0
    refine bodyPost_ret (v := .tuple #[.agg #[.slice none 0 0], .int .i64 4]) (by simp [results, Try.results15, go_sem, e1]) rfl ?_
    rw [HRR.out]
    refine ⟨none, 0, [], 4, rfl, ns_nil _, fun _ => rfl, S2.out.done _, by simp, ?_⟩
    unfold SetE
    rw [← HXV.out, ← HYV.out, if_pos ⟨by omega, fun h => by have := HIN.out.2 h; omega⟩]
    exact ⟨rfl, rfl⟩
end Go.Proofs.Ytlnmcilcifbcnaa

namespace Go.Proofs.Ytlnmcilcifbcnaa
open Go.RowKit Num Nds
structure Ag (w W : World) (L : List (Option Addr × Nat × List Nd)) (M : List (Nat × Value)) (K : List (Nat × Bw × Int)) : Prop where
 al : Al w W L M
 kb : ∀ t ∈ K, t.2.1.B W t.1 t.2.2
theorem Ag.start (w : World) : Ag w w [] [] [] := ⟨Al.start w, by simp⟩
theorem Ag.step {w W W' : World} {L : List (Option Addr × Nat × List Nd)} {M : List (Nat × Value)} {K : List (Nat × Bw × Int)} (s : Ag w W L M K) (b : Below W.heap.size W W') : Ag w W' L M K :=
 ⟨s.al.step b, fun t ht => (s.kb t ht).next b⟩
theorem Ag.alloc {w W : World} {L : List (Option Addr × Nat × List Nd)} {M : List (Nat × Value)} {K : List (Nat × Bw × Int)} (s : Ag w W L M K) (o : Obj) : Ag w (W.alloc o) L M K := s.step ((Below.refl _ W).alloc (Nat.le_refl _) o)
theorem Ag.addN {w W : World} {L : List (Option Addr × Nat × List Nd)} {M : List (Nat × Value)} {K : List (Nat × Bw × Int)} (s : Ag w W L M K) {A : Option Addr} {c : Nat} {l : List Nd} (h : Ns W A c l) : Ag w W ((A, c, l) :: L) M K := ⟨s.al.addN h, s.kb⟩
theorem Ag.addB {w W : World} {L : List (Option Addr × Nat × List Nd)} {M : List (Nat × Value)} {K : List (Nat × Bw × Int)} (s : Ag w W L M K) (v : Value) : Ag w (W.alloc (.cells #[v] 31)) L ((W.heap.size, v) :: M) K := ⟨s.al.addB v, (s.alloc _).kb⟩
theorem Ag.addK {w W : World} {L : List (Option Addr × Nat × List Nd)} {M : List (Nat × Value)} {K : List (Nat × Bw × Int)} (s : Ag w W L M K) {u : Bw} {X : Int} (h : u.R W X) : Ag w (W.alloc (.cells #[.bool u.s, .slice u.a u.xs.length u.c] 25)) L M ((W.heap.size, u, X) :: K) :=
 ⟨(s.alloc _).al, fun t ht => by
  rcases List.mem_cons.1 ht with rfl | ht
  ·
   exact h.box
  ·
   exact (s.alloc _).kb t ht⟩
theorem Ag.getN {w W : World} {L : List (Option Addr × Nat × List Nd)} {M : List (Nat × Value)} {K : List (Nat × Bw × Int)} (s : Ag w W L M K) {A : Option Addr} {c : Nat} {l : List Nd} (h : (A, c, l) ∈ L) : Ns W A c l := s.al.getN h
theorem Ag.getB {w W : World} {L : List (Option Addr × Nat × List Nd)} {M : List (Nat × Value)} {K : List (Nat × Bw × Int)} (s : Ag w W L M K) {g : Nat} {v : Value} (h : (g, v) ∈ M) : W.cell? ⟨g, 0, none⟩ = some v := s.al.getB h
theorem Ag.getK {w W : World} {L : List (Option Addr × Nat × List Nd)} {M : List (Nat × Value)} {K : List (Nat × Bw × Int)} (s : Ag w W L M K) {g : Nat} {u : Bw} {X : Int} (h : (g, u, X) ∈ K) : u.B W g X := s.kb _ h
theorem Ag.b {w W : World} {L : List (Option Addr × Nat × List Nd)} {M : List (Nat × Value)} {K : List (Nat × Bw × Int)} (s : Ag w W L M K) : Below w.heap.size w W := s.al.sn.1
theorem qs_quadOf {L : List Cl} {q : List Nd} (h : QuadOf L q) : QS q :=
 ⟨quad_loose h.quad, quadOf_one (ofL_quadOf (quad_loose h.quad) (Nat.le_refl _) h.den) h fun _ _ => rfl⟩
theorem set_bw (A : Option Addr) (c n : Nat) (q : List Nd) (u v : Bw) (X Y : Int) (k : Nat) (w : World) (h : Ns w A c q) (hn : q.length = n) (hn9 : n ≤ 800000) (hA : A = none → c = 0) (hq : QS q) (hu : u.R w X) (hv : v.R w Y) (lu : u.xs.length ≤ 50000) (lv : v.xs.length ≤ 50000) (hk : k ≤ 255) :
  Calls Try.prog 14 #[.agg #[.slice A n c], .agg #[.bool u.s, .slice u.a u.xs.length u.c], .agg #[.bool v.s, .slice v.a v.xs.length v.c], .int .u8 (k : Int)] w (RetLk q X Y (k : Int) w) := by
 have h1 := set_lk A u.a v.a c n u.c v.c u.s v.s q u.xs v.xs k w h hn hn9 hA hq hu.us hv.us hu.cn hv.cn lu lv hk
 rwa [hu.v, hv.v] at h1
theorem rset_bw (A : Option Addr) (c n : Nat) (q : List Nd) (u v : Bw) (X Y : Int) (k : Nat) (w : World) (h : Ns w A c q) (hn : q.length = n) (hn9 : n ≤ 800000) (hA : A = none → c = 0) (hq : QS q) (hu : u.R w X) (hv : v.R w Y) (lu : u.xs.length ≤ 50000) (lv : v.xs.length ≤ 50000) (hk : k ≤ 255) :
  Calls Try.prog 15 #[.agg #[.slice A n c], .agg #[.bool u.s, .slice u.a u.xs.length u.c], .agg #[.bool v.s, .slice v.a v.xs.length v.c], .int .u8 (k : Int)] w (RetLk q X Y (k : Int) w) := by
 have h1 := rset_lk A u.a v.a c n u.c v.c u.s v.s q u.xs v.xs k w h hn hn9 hA hq hu.us hv.us hu.cn hv.cn lu lv hk
 rwa [hu.v, hv.v] at h1
theorem get_bw (A : Option Addr) (c n : Nat) (q : List Nd) (u v : Bw) (X Y : Int) (w : World) (h : Ns w A c q) (hn : q.length = n) (hq : looseB q = true) (hu : u.R w X) (hv : v.R w Y) (lu : u.xs.length ≤ 50000) (lv : v.xs.length ≤ 50000) :
  Calls Try.prog 16 #[.agg #[.slice A n c], .agg #[.bool u.s, .slice u.a u.xs.length u.c], .agg #[.bool v.s, .slice v.a v.xs.length v.c]] w fun e w' => e = .returned (.int .u8 (getQ q X Y)) ∧ Below w.heap.size w w' := by
 have h1 := get_lk A u.a v.a c n u.c v.c u.s v.s q u.xs v.xs w h hn hq hu.us hv.us hu.cn hv.cn lu lv
 rwa [hu.v, hv.v] at h1
theorem SetE.yes {q q' : List Nd} {X Y s er : Int} (h : SetE q X Y s er q') (hi : s ≠ 0 → inR X ∧ inR Y) : er = 0 ∧ SetOf q X Y s q' := by
 unfold SetE at h
 rwa [if_neg (fun e => e.2 (hi e.1))] at h
theorem SetE.no {q q' : List Nd} {X Y s er : Int} (h : SetE q X Y s er q') (h0 : s ≠ 0) (hi : ¬ (inR X ∧ inR Y)) : er = 4 ∧ q' = [] := by
 unfold SetE at h
 rwa [if_pos ⟨h0, hi⟩] at h
theorem SetOf.get {q q' : List Nd} {X Y s : Int} (h : SetOf q X Y s q') (x y : Int) : getQ q' x y = if x = X ∧ y = Y then s else getQ q x y := h.2 x y
end Go.Proofs.Ytlnmcilcifbcnaa

namespace Go.Proofs.Ytlnmcilcifbcnaa
open Go.RowKit Num Nds
def q8 : List Nd := ofQ (setF 4 [] 5 (-7) 9).1 (setF 4 [] 5 (-7) 9).2
theorem q8_set : SetOf [] 5 (-7) 9 q8 :=
 (set_spec qs_nil (lv := 4) (by omega) (by omega) (fun h => absurd h (by simp)) (X := 5) (Y := -7) (s := 9) (by show (-8 : Int) ≤ 5 ∧ (5 : Int) < 8; omega) (by show (-8 : Int) ≤ -7 ∧ (-7 : Int) < 8; omega) (by omega)).2.1
theorem q8_len : q8.length = 4 := by kernel_rfl
theorem q8_most : mostF q8 % 256 = 9 := by kernel_rfl
theorem none8 (x y : Int) : getQ [] x y = 0 := rfl
theorem got8 (x y : Int) : getQ q8 x y = if x = 5 ∧ y = -7 then 9 else 0 := by rw [q8_set.get, none8]
theorem unset8 {p : List Nd} (h : SetOf q8 5 (-7) 0 p) : p = [] := by
 refine qs_one h.1 qs_nil fun x y => ?_
 have h1 := h.get x y
 rw [got8] at h1
 unfold getQ at h1
 rw [h1, show cellM (den [] ([] : List Nd).length) x y = 0 from rfl]
 split
 ·
  rfl
 ·
  rfl
theorem in8 {n : Int} (h : -8 ≤ n ∧ n < 8) : inR n := by
 have h1 := p2_mono (show 3 ≤ 1328 by omega)
 have h2 : p2 3 = 8 := rfl
 unfold inR
 omega
theorem far8 : ¬ (inR (p2 1328) ∧ inR (-7)) := fun h => absurd h.1.2 (Int.lt_irrefl _)
theorem near8 {n : Int} (h : -8 ≤ n ∧ n < 8) : -p2 1330 ≤ n ∧ n ≤ p2 1330 := by
 have h1 := p2_mono (show 3 ≤ 1330 by omega)
 have h2 : p2 3 = 8 := rfl
 omega
theorem pow8 : -p2 1330 ≤ p2 1328 ∧ p2 1328 ≤ p2 1330 := by
 have h1 := p2_mono (show 1328 ≤ 1330 by omega)
 have h2 := p2_pos 1328
 omega
theorem cell8 {w W : World} {g2 g3 g4 : Nat} {u v : Bw} {A3 A4 : Option Addr} {c3 c4 : Nat} {L : List (Option Addr × Nat × List Nd)} (s : Ag w W L [(g4, .slice A4 0 c4), (g3, .slice A3 4 c3)] [(g2 + 1, v, -7), (g2, u, 5)]) :
  W.cell? ⟨g3, 0, none⟩ = some (.slice A3 4 c3) ∧ W.cell? ⟨g2 + 1, 0, none⟩ = some (.bool v.s) ∧ W.cell? ⟨g2 + 1, 1, none⟩ = some (.slice v.a v.xs.length v.c) :=
 ⟨s.getB (by simp), (s.getK (g := g2 + 1) (u := v) (X := -7) (by simp)).c0, (s.getK (g := g2 + 1) (u := v) (X := -7) (by simp)).c1⟩
set_option maxHeartbeats 6400000 in
theorem alive8_any (w : World) : Calls Try.prog 10 #[] w fun e w' => e = .returned (.bool true) ∧ Below w.heap.size w w' := by
 have tk0 : True := trivial
 go_enter Try.func10, Try.ntmps10
 go_wp2_with (first
  | (have _t := tk0; go_at_call 32; clear _t; go_loud (refine (rbof_any 5 _ (by omega) (by omega)).mono ?_; rintro e w1 h1; obtain ⟨u, rfl, k1, b1⟩ := retI_bw h1; have lu := bw_len k1 (near8 (by omega)).1 (near8 (by omega)).2; have hcu := k1.us.cap; have U1 := Lib.hid k1; have G1 := Lib.hid ((Ag.start w).step b1); clear h1 k1 b1; have tk1 := tk0; clear tk0))
  | (have _t := tk1; go_at_call 32; clear _t; go_loud (refine (rbof_any (-7) _ (by omega) (by omega)).mono ?_; rintro e w2 h2; obtain ⟨v, rfl, k2, b2⟩ := retI_bw h2; have lv := bw_len k2 (near8 (by omega)).1 (near8 (by omega)).2; have hcv := k2.us.cap; have G2 := Lib.hid (G1.out.step b2); have ku := U1.out.next b2; have hbl := (Below.refl w2.heap.size w2).alloc (Nat.le_refl _) (.cells #[.bool u.s, .slice u.a u.xs.length u.c] 25); have g3 := (G2.out.addK ku).addK (k2.next hbl); rw [World.size_alloc] at g3; have G3 := Lib.hid g3; clear h2 k2 b2 ku hbl g3; have tk2 := tk1; clear tk1))
  | (have _t := tk2; go_at_call 14; clear _t; go_loud (refine (set_bw none 0 0 [] u v 5 (-7) 9 _ (ns_nil _) rfl (by omega) (fun _ => rfl) qs_nil (G3.out.getK (g := w2.heap.size) (u := u) (X := 5) (by simp)).r (G3.out.getK (g := w2.heap.size + 1) (u := v) (X := -7) (by simp)).r (by omega) (by omega) (by omega)).mono ?_; rintro e w3 ⟨A3, c3, q3, er, rfl, n3, a3, b3, l3, s3⟩; obtain ⟨rfl, s4⟩ := s3.yes (fun _ => ⟨in8 (by omega), in8 (by omega)⟩); have e3 := s4.one q8_set; subst e3; rw [q8_len]; have hc3 := n3.cap; rw [q8_len] at hc3; have HA3 := Lib.hid a3; have G4 := Lib.hid (((G3.out.step b3).addN n3).addB (.slice A3 4 c3)); have x0 := (G4.out.getK (g := w2.heap.size) (u := u) (X := 5) (by simp)).c0; have x1 := (G4.out.getK (g := w2.heap.size) (u := u) (X := 5) (by simp)).c1; have y0 := (G4.out.getK (g := w2.heap.size + 1) (u := v) (X := -7) (by simp)).c0; have y1 := (G4.out.getK (g := w2.heap.size + 1) (u := v) (X := -7) (by simp)).c1; clear n3 a3 b3 l3 s3 s4; have tk3 := tk2; clear tk2))
  | (have _t := tk3; go_at_call 14; clear _t; go_loud (refine (set_bw A3 c3 4 q8 u v 5 (-7) 0 _ (G4.out.getN (A := A3) (c := c3) (by simp)) q8_len (by omega) HA3.out q8_set.1 (G4.out.getK (g := w2.heap.size) (u := u) (X := 5) (by simp)).r (G4.out.getK (g := w2.heap.size + 1) (u := v) (X := -7) (by simp)).r (by omega) (by omega) (by omega)).mono ?_; rintro e w4 ⟨A4, c4, q4_, er, rfl, n4, a4, b4, l4, s4⟩; obtain ⟨rfl, s5⟩ := s4.yes (fun h => absurd rfl h); have e4 := unset8 s5; subst e4; have hc4 := n4.cap; have G5 := Lib.hid ((G4.out.step b4).addB (.slice A4 0 c4)); clear n4 a4 b4 l4 s4 s5; have tk4 := tk3; clear tk3)))
 obtain ⟨g3, hg3⟩ : ∃ g, g = w3.heap.size := ⟨_, rfl⟩
 obtain ⟨g2, hg2⟩ : ∃ g, g = w2.heap.size := ⟨_, rfl⟩
 obtain ⟨g4, hg4⟩ : ∃ g, g = w4.heap.size := ⟨_, rfl⟩
 obtain ⟨W0, hW0⟩ : ∃ W0 : World, W0 = (w4.alloc (.cells #[.slice A4 0 c4] 31)).drew := ⟨_, rfl⟩
 have G6 := Lib.hid (G5.out.step (Below.drew' (Below.refl _ (w4.alloc (.cells #[.slice A4 0 c4] 31)))))
 rw [← hg2, ← hg3, ← hg4, ← hW0] at G6
 refine wp_region_noPanic ?_
 refine wp_region_held (S := fun w' => w'.cell? ⟨g3, 0, none⟩ = some (.slice A3 4 c3) ∧ w'.cell? ⟨g2 + 1, 0, none⟩ = some (.bool v.s) ∧ w'.cell? ⟨g2 + 1, 1, none⟩ = some (.slice v.a v.xs.length v.c)) (by kernel_rfl) ?_
 change wpAnyH _ _ _ _ _ _ _ _ (w4.alloc (.cells #[.slice A4 0 c4] 31)).drew
 rw [← hW0, ← hg2, ← hg3, ← hg4]
 clear hW0 hg2 hg3 hg4 x0 x1 y0 y1 tk4 G1 G2 G3 G4 G5
 have B0 := Lib.hid (Below.refl W0.heap.size W0)
 have hS0 := (cell8 (G6.out.step B0.out))
 refine wpAnyH_take (i := 0) (v := ?_) rfl (by kernel_rfl) (by kernel_rfl) (by kernel_rfl) (fun _ _ _ h => h) (Or.inl ⟨by rfl, ?_⟩) hS0 ?_
 rotate_left
 ·
  rintro w' ⟨s1, s2, s3⟩
  go_simp
  first | done | with_reducible rfl | rfl
 simp only [Act.put, LA]
 refine wpAnyH_take (i := 2) (v := ?_) rfl (by kernel_rfl) (by kernel_rfl) (by kernel_rfl) (fun _ _ _ h => h) (Or.inl ⟨by rfl, ?_⟩) hS0 ?_
 rotate_left
 ·
  rintro w' ⟨s1, s2, s3⟩
  go_simp
  first | done | with_reducible rfl | rfl
 simp only [Act.put, LA]
 refine wpAnyH_ready (rs := [1, 7]) (by kernel_rfl) (by simp) (AllReadyH.cons rfl (fun K hK => ?_) (AllReadyH.cons rfl (fun K hK => ?_) AllReadyH.nil))
 ·
  go_simp
  refine (rbpow_any _ _).mono ?_
  rintro e W1 h9
  rw [show shlI 1 (1328 : Int) = p2 1328 from pow_p2 1328 (by omega)] at h9
  obtain ⟨p, rfl, kp, bp⟩ := retI_bw h9
  dsimp only
  have lp := bw_len kp pow8.1 pow8.2
  have hcp := kp.us.cap
  have B1 := Lib.hid (B0.out.trans (bp.mono B0.out.size))
  have P1 := Lib.hid kp
  refine hK.out _ _ (cell8 (G6.out.step B1.out)) (fun _ => ?_)
  clear hK K h9 kp bp
  refine wpAnyH_ready (rs := [3, 7]) (by kernel_rfl) (by simp) (AllReadyH.cons rfl (fun K hK => ?_) (AllReadyH.cons rfl (fun K hK => ?_) AllReadyH.nil))
  ·
   go_simp
   refine (set_bw A3 c3 4 q8 p v (p2 1328) (-7) 1 _ ((G6.out.step B1.out).getN (A := A3) (c := c3) (by simp)) q8_len (by omega) HA3.out q8_set.1 P1.out ((G6.out.step B1.out).getK (g := g2 + 1) (u := v) (X := -7) (by simp)).r (by omega) (by omega) (by omega)).mono ?_
   rintro e W2 ⟨A5, c5, q5_, er, rfl, n5, a5, b5, l5, s5⟩
   obtain ⟨rfl, rfl⟩ := s5.no (by omega) far8
   dsimp only
   have B2 := Lib.hid (B1.out.trans (b5.mono B1.out.size))
   refine hK.out _ _ (cell8 (G6.out.step B2.out)) (fun hS2 => ?_)
   clear hK K n5 a5 b5 l5 s5
   refine wpAnyH_take (i := 4) (v := ?_) rfl (by kernel_rfl) (by kernel_rfl) (by kernel_rfl) (fun _ _ _ h => h) (Or.inl ⟨by rfl, ?_⟩) hS2 ?_
   rotate_left
   ·
    rintro w' ⟨s1, s2, s3⟩
    go_simp
    first | done | with_reducible rfl | rfl
   simp only [Act.put, LA]
   refine wpAnyH_take (i := 5) (v := ?_) rfl (by kernel_rfl) (by kernel_rfl) (by kernel_rfl) (fun _ _ _ h => h) (Or.inl ⟨by rfl, ?_⟩) hS2 ?_
   rotate_left
   ·
    rintro w' ⟨s1, s2, s3⟩
    go_simp
    first | done | with_reducible rfl | rfl
   simp only [Act.put, LA]
   refine wpAnyH_take (i := 6) (v := ?_) rfl (by kernel_rfl) (by kernel_rfl) (by kernel_rfl) (fun _ _ _ h => h) (Or.inl ⟨by rfl, ?_⟩) hS2 ?_
   rotate_left
   ·
    rintro w' ⟨s1, s2, s3⟩
    go_simp
    first | done | with_reducible rfl | rfl
   simp only [Act.put, LA]
   refine wpAnyH_ready (rs := [7]) (by kernel_rfl) (by simp) (AllReadyH.cons rfl (fun K hK => ?_) AllReadyH.nil)
   go_simp
   obtain ⟨g7, hg⟩ : ∃ g, g = W2.heap.size := ⟨_, rfl⟩
   obtain ⟨W3, hW⟩ : ∃ Z : World, Z = W2.alloc (.cells #[.slice none 0 0] 31) := ⟨_, rfl⟩
   have hbl := (Below.refl W2.heap.size W2).alloc (Nat.le_refl _) (.cells #[.slice none 0 0] 31)
   rw [← hW] at hbl
   have R3 := Lib.hid (show W3.heap[g7]? = some (.cells #[.slice none 0 0] 31) by rw [hW, hg]; exact heap_alloc_new W2 _)
   have GA := Lib.hid (show W0.heap.size ≤ g7 by rw [hg]; exact B2.out.size)
   have B3 := Lib.hid (B2.out.trans (hbl.mono B2.out.size))
   rw [← hg, ← hW]
   refine hK.out _ _ (cell8 (G6.out.step B3.out)) (fun _ => ?_)
   clear hK K hg hW hbl
   refine wpAnyH_ready (rs := [8]) (by kernel_rfl) (by simp) (AllReadyH.cons rfl (fun K hK => ?_) AllReadyH.nil)
   have z0 := one_cell R3.out
   have z1 := one_free R3.out
   go_simp
   have BF := Lib.hid (B3.out.setCell (p := ⟨g7, 0, none⟩) GA.out (.slice A5 0 c5))
   have hS9 := cell8 (G6.out.step BF.out)
   refine hK.out _ _ hS9 (fun _ => ?_)
   clear hK K z0 z1
   refine wpAnyH_take (i := 9) (v := ?_) rfl (by kernel_rfl) (by kernel_rfl) (by kernel_rfl) (fun _ _ _ h => h) (Or.inl ⟨by rfl, ?_⟩) hS9 ?_
   rotate_left
   ·
    rintro w' ⟨s1, s2, s3⟩
    go_simp
    first | done | with_reducible rfl | rfl
   simp only [Act.put, LA]
   refine wpAnyH_done (by kernel_rfl) ?_ _
   refine NoPanic.normal ?_
   obtain ⟨V, hV⟩ : ∃ V : World, V = W3.setCell ⟨g7, 0, none⟩ (.slice A5 0 c5) := ⟨_, rfl⟩
   have G7 := Lib.hid (G6.out.step BF.out)
   rw [← hV] at G7 ⊢
   clear hV hS9
   have f0 := (G7.out.getB (g := g3) (v := .slice A3 4 c3) (by simp))
   have f1 := (G7.out.getB (g := g4) (v := .slice A4 0 c4) (by simp))
   have x0 := (G7.out.getK (g := g2) (u := u) (X := 5) (by simp)).c0
   have x1 := (G7.out.getK (g := g2) (u := u) (X := 5) (by simp)).c1
   have y0 := (G7.out.getK (g := g2 + 1) (u := v) (X := -7) (by simp)).c0
   have y1 := (G7.out.getK (g := g2 + 1) (u := v) (X := -7) (by simp)).c1
   have tk7 : True := trivial
   go_wp2_with (first
    | (have _t := tk7; go_at_call 16; clear _t; go_loud (refine (get_bw A3 c3 4 q8 u v 5 (-7) _ (G7.out.getN (A := A3) (c := c3) (by simp)) q8_len q8_set.1.1 (G7.out.getK (g := g2) (u := u) (X := 5) (by simp)).r (G7.out.getK (g := g2 + 1) (u := v) (X := -7) (by simp)).r (by omega) (by omega)).mono ?_; rintro e w7 ⟨rfl, b⟩; rw [show getQ q8 5 (-7) = 9 by rw [got8]; rfl]; have G8 := Lib.hid (G7.out.step b); have f0 := (G8.out.getB (g := g3) (v := .slice A3 4 c3) (by simp)); have f1 := (G8.out.getB (g := g4) (v := .slice A4 0 c4) (by simp)); have x0 := (G8.out.getK (g := g2) (u := u) (X := 5) (by simp)).c0; have x1 := (G8.out.getK (g := g2) (u := u) (X := 5) (by simp)).c1; have y0 := (G8.out.getK (g := g2 + 1) (u := v) (X := -7) (by simp)).c0; have y1 := (G8.out.getK (g := g2 + 1) (u := v) (X := -7) (by simp)).c1; clear b; have tk8 := tk7; clear tk7))
    | (have _t := tk8; go_at_call 16; clear _t; go_loud (refine (get_bw A3 c3 4 q8 v u (-7) 5 _ (G8.out.getN (A := A3) (c := c3) (by simp)) q8_len q8_set.1.1 (G8.out.getK (g := g2 + 1) (u := v) (X := -7) (by simp)).r (G8.out.getK (g := g2) (u := u) (X := 5) (by simp)).r (by omega) (by omega)).mono ?_; rintro e w8 ⟨rfl, b⟩; rw [show getQ q8 (-7) 5 = 0 by rw [got8]; rfl]; have G9 := Lib.hid (G8.out.step b); have f0 := (G9.out.getB (g := g3) (v := .slice A3 4 c3) (by simp)); have f1 := (G9.out.getB (g := g4) (v := .slice A4 0 c4) (by simp)); have x0 := (G9.out.getK (g := g2) (u := u) (X := 5) (by simp)).c0; have x1 := (G9.out.getK (g := g2) (u := u) (X := 5) (by simp)).c1; have y0 := (G9.out.getK (g := g2 + 1) (u := v) (X := -7) (by simp)).c0; have y1 := (G9.out.getK (g := g2 + 1) (u := v) (X := -7) (by simp)).c1; clear b; have tk9 := tk8; clear tk8))
    | (have _t := tk9; go_at_call 19; clear _t; go_loud (refine (most_lk A3 c3 4 q8 _ (G9.out.getN (A := A3) (c := c3) (by simp)) q8_len).mono ?_; rintro e w9 ⟨rfl, b⟩; rw [q8_most]; have G10 := Lib.hid (G9.out.step b); have f0 := (G10.out.getB (g := g3) (v := .slice A3 4 c3) (by simp)); have f1 := (G10.out.getB (g := g4) (v := .slice A4 0 c4) (by simp)); have x0 := (G10.out.getK (g := g2) (u := u) (X := 5) (by simp)).c0; have x1 := (G10.out.getK (g := g2) (u := u) (X := 5) (by simp)).c1; have y0 := (G10.out.getK (g := g2 + 1) (u := v) (X := -7) (by simp)).c0; have y1 := (G10.out.getK (g := g2 + 1) (u := v) (X := -7) (by simp)).c1; clear b; have tk10 := tk9; clear tk9))
    | (have _t := tk10; go_at_call 16; clear _t; go_loud (refine (get_bw none 0 0 [] u v 5 (-7) _ (ns_nil _) rfl rfl (G10.out.getK (g := g2) (u := u) (X := 5) (by simp)).r (G10.out.getK (g := g2 + 1) (u := v) (X := -7) (by simp)).r (by omega) (by omega)).mono ?_; rintro e w10 ⟨rfl, b⟩; rw [none8]; have G11 := Lib.hid (G10.out.step b); have f0 := (G11.out.getB (g := g3) (v := .slice A3 4 c3) (by simp)); have f1 := (G11.out.getB (g := g4) (v := .slice A4 0 c4) (by simp)); have x0 := (G11.out.getK (g := g2) (u := u) (X := 5) (by simp)).c0; have x1 := (G11.out.getK (g := g2) (u := u) (X := 5) (by simp)).c1; have y0 := (G11.out.getK (g := g2 + 1) (u := v) (X := -7) (by simp)).c0; have y1 := (G11.out.getK (g := g2 + 1) (u := v) (X := -7) (by simp)).c1; clear b; have tk11 := tk10; clear tk10))
    | (have _t := tk11; go_at_call 24; clear _t; go_loud (refine (nrright_any A3 c3 4 q8 _ (G11.out.getN (A := A3) (c := c3) (by simp)) q8_len (by omega)).mono ?_; rintro e w11 ⟨rfl, b⟩; rw [q8_set.1.quad]; have G12 := Lib.hid (G11.out.step b); have f0 := (G12.out.getB (g := g3) (v := .slice A3 4 c3) (by simp)); have f1 := (G12.out.getB (g := g4) (v := .slice A4 0 c4) (by simp)); have x0 := (G12.out.getK (g := g2) (u := u) (X := 5) (by simp)).c0; have x1 := (G12.out.getK (g := g2) (u := u) (X := 5) (by simp)).c1; have y0 := (G12.out.getK (g := g2 + 1) (u := v) (X := -7) (by simp)).c0; have y1 := (G12.out.getK (g := g2 + 1) (u := v) (X := -7) (by simp)).c1; clear b; have tk12 := tk11; clear tk11)))
   go_ret
   exact ⟨rfl, G12.out.b⟩
  ·
   go_simp
   obtain ⟨g7, hg⟩ : ∃ g, g = W1.heap.size := ⟨_, rfl⟩
   obtain ⟨W2, hW⟩ : ∃ Z : World, Z = W1.alloc (.cells #[.slice none 0 0] 31) := ⟨_, rfl⟩
   have hbl := (Below.refl W1.heap.size W1).alloc (Nat.le_refl _) (.cells #[.slice none 0 0] 31)
   rw [← hW] at hbl
   have R2 := Lib.hid (show W2.heap[g7]? = some (.cells #[.slice none 0 0] 31) by rw [hW, hg]; exact heap_alloc_new W1 _)
   have GA := Lib.hid (show W0.heap.size ≤ g7 by rw [hg]; exact B1.out.size)
   have B2 := Lib.hid (B1.out.trans (hbl.mono B1.out.size))
   have P2 := Lib.hid (P1.out.next hbl)
   rw [← hg, ← hW]
   refine hK.out _ _ (cell8 (G6.out.step B2.out)) (fun _ => ?_)
   clear hK K hg hW hbl
   refine wpAnyH_ready (rs := [3]) (by kernel_rfl) (by simp) (AllReadyH.cons rfl (fun K hK => ?_) AllReadyH.nil)
   go_simp
   refine (set_bw A3 c3 4 q8 p v (p2 1328) (-7) 1 _ ((G6.out.step B2.out).getN (A := A3) (c := c3) (by simp)) q8_len (by omega) HA3.out q8_set.1 P2.out ((G6.out.step B2.out).getK (g := g2 + 1) (u := v) (X := -7) (by simp)).r (by omega) (by omega) (by omega)).mono ?_
   rintro e W3 ⟨A5, c5, q5_, er, rfl, n5, a5, b5, l5, s5⟩
   obtain ⟨rfl, rfl⟩ := s5.no (by omega) far8
   dsimp only
   have B3 := Lib.hid (B2.out.trans (b5.mono B2.out.size))
   have R3 := Lib.hid ((b5.block g7 (heapLt R2.out)).trans R2.out)
   refine hK.out _ _ (cell8 (G6.out.step B3.out)) (fun hS3 => ?_)
   clear hK K n5 a5 b5 l5 s5
   refine wpAnyH_take (i := 4) (v := ?_) rfl (by kernel_rfl) (by kernel_rfl) (by kernel_rfl) (fun _ _ _ h => h) (Or.inl ⟨by rfl, ?_⟩) hS3 ?_
   rotate_left
   ·
    rintro w' ⟨s1, s2, s3⟩
    go_simp
    first | done | with_reducible rfl | rfl
   simp only [Act.put, LA]
   refine wpAnyH_take (i := 5) (v := ?_) rfl (by kernel_rfl) (by kernel_rfl) (by kernel_rfl) (fun _ _ _ h => h) (Or.inl ⟨by rfl, ?_⟩) hS3 ?_
   rotate_left
   ·
    rintro w' ⟨s1, s2, s3⟩
    go_simp
    first | done | with_reducible rfl | rfl
   simp only [Act.put, LA]
   refine wpAnyH_take (i := 6) (v := ?_) rfl (by kernel_rfl) (by kernel_rfl) (by kernel_rfl) (fun _ _ _ h => h) (Or.inl ⟨by rfl, ?_⟩) hS3 ?_
   rotate_left
   ·
    rintro w' ⟨s1, s2, s3⟩
    go_simp
    first | done | with_reducible rfl | rfl
   simp only [Act.put, LA]
   refine wpAnyH_ready (rs := [8]) (by kernel_rfl) (by simp) (AllReadyH.cons rfl (fun K hK => ?_) AllReadyH.nil)
   have z0 := one_cell R3.out
   have z1 := one_free R3.out
   go_simp
   have BF := Lib.hid (B3.out.setCell (p := ⟨g7, 0, none⟩) GA.out (.slice A5 0 c5))
   have hS9 := cell8 (G6.out.step BF.out)
   refine hK.out _ _ hS9 (fun _ => ?_)
   clear hK K z0 z1
   refine wpAnyH_take (i := 9) (v := ?_) rfl (by kernel_rfl) (by kernel_rfl) (by kernel_rfl) (fun _ _ _ h => h) (Or.inl ⟨by rfl, ?_⟩) hS9 ?_
   rotate_left
   ·
    rintro w' ⟨s1, s2, s3⟩
    go_simp
    first | done | with_reducible rfl | rfl
   simp only [Act.put, LA]
   refine wpAnyH_done (by kernel_rfl) ?_ _
   refine NoPanic.normal ?_
   obtain ⟨V, hV⟩ : ∃ V : World, V = W3.setCell ⟨g7, 0, none⟩ (.slice A5 0 c5) := ⟨_, rfl⟩
   have G7 := Lib.hid (G6.out.step BF.out)
   rw [← hV] at G7 ⊢
   clear hV hS9
   have f0 := (G7.out.getB (g := g3) (v := .slice A3 4 c3) (by simp))
   have f1 := (G7.out.getB (g := g4) (v := .slice A4 0 c4) (by simp))
   have x0 := (G7.out.getK (g := g2) (u := u) (X := 5) (by simp)).c0
   have x1 := (G7.out.getK (g := g2) (u := u) (X := 5) (by simp)).c1
   have y0 := (G7.out.getK (g := g2 + 1) (u := v) (X := -7) (by simp)).c0
   have y1 := (G7.out.getK (g := g2 + 1) (u := v) (X := -7) (by simp)).c1
   have tk7 : True := trivial
   go_wp2_with (first
    | (have _t := tk7; go_at_call 16; clear _t; go_loud (refine (get_bw A3 c3 4 q8 u v 5 (-7) _ (G7.out.getN (A := A3) (c := c3) (by simp)) q8_len q8_set.1.1 (G7.out.getK (g := g2) (u := u) (X := 5) (by simp)).r (G7.out.getK (g := g2 + 1) (u := v) (X := -7) (by simp)).r (by omega) (by omega)).mono ?_; rintro e w7 ⟨rfl, b⟩; rw [show getQ q8 5 (-7) = 9 by rw [got8]; rfl]; have G8 := Lib.hid (G7.out.step b); have f0 := (G8.out.getB (g := g3) (v := .slice A3 4 c3) (by simp)); have f1 := (G8.out.getB (g := g4) (v := .slice A4 0 c4) (by simp)); have x0 := (G8.out.getK (g := g2) (u := u) (X := 5) (by simp)).c0; have x1 := (G8.out.getK (g := g2) (u := u) (X := 5) (by simp)).c1; have y0 := (G8.out.getK (g := g2 + 1) (u := v) (X := -7) (by simp)).c0; have y1 := (G8.out.getK (g := g2 + 1) (u := v) (X := -7) (by simp)).c1; clear b; have tk8 := tk7; clear tk7))
    | (have _t := tk8; go_at_call 16; clear _t; go_loud (refine (get_bw A3 c3 4 q8 v u (-7) 5 _ (G8.out.getN (A := A3) (c := c3) (by simp)) q8_len q8_set.1.1 (G8.out.getK (g := g2 + 1) (u := v) (X := -7) (by simp)).r (G8.out.getK (g := g2) (u := u) (X := 5) (by simp)).r (by omega) (by omega)).mono ?_; rintro e w8 ⟨rfl, b⟩; rw [show getQ q8 (-7) 5 = 0 by rw [got8]; rfl]; have G9 := Lib.hid (G8.out.step b); have f0 := (G9.out.getB (g := g3) (v := .slice A3 4 c3) (by simp)); have f1 := (G9.out.getB (g := g4) (v := .slice A4 0 c4) (by simp)); have x0 := (G9.out.getK (g := g2) (u := u) (X := 5) (by simp)).c0; have x1 := (G9.out.getK (g := g2) (u := u) (X := 5) (by simp)).c1; have y0 := (G9.out.getK (g := g2 + 1) (u := v) (X := -7) (by simp)).c0; have y1 := (G9.out.getK (g := g2 + 1) (u := v) (X := -7) (by simp)).c1; clear b; have tk9 := tk8; clear tk8))
    | (have _t := tk9; go_at_call 19; clear _t; go_loud (refine (most_lk A3 c3 4 q8 _ (G9.out.getN (A := A3) (c := c3) (by simp)) q8_len).mono ?_; rintro e w9 ⟨rfl, b⟩; rw [q8_most]; have G10 := Lib.hid (G9.out.step b); have f0 := (G10.out.getB (g := g3) (v := .slice A3 4 c3) (by simp)); have f1 := (G10.out.getB (g := g4) (v := .slice A4 0 c4) (by simp)); have x0 := (G10.out.getK (g := g2) (u := u) (X := 5) (by simp)).c0; have x1 := (G10.out.getK (g := g2) (u := u) (X := 5) (by simp)).c1; have y0 := (G10.out.getK (g := g2 + 1) (u := v) (X := -7) (by simp)).c0; have y1 := (G10.out.getK (g := g2 + 1) (u := v) (X := -7) (by simp)).c1; clear b; have tk10 := tk9; clear tk9))
    | (have _t := tk10; go_at_call 16; clear _t; go_loud (refine (get_bw none 0 0 [] u v 5 (-7) _ (ns_nil _) rfl rfl (G10.out.getK (g := g2) (u := u) (X := 5) (by simp)).r (G10.out.getK (g := g2 + 1) (u := v) (X := -7) (by simp)).r (by omega) (by omega)).mono ?_; rintro e w10 ⟨rfl, b⟩; rw [none8]; have G11 := Lib.hid (G10.out.step b); have f0 := (G11.out.getB (g := g3) (v := .slice A3 4 c3) (by simp)); have f1 := (G11.out.getB (g := g4) (v := .slice A4 0 c4) (by simp)); have x0 := (G11.out.getK (g := g2) (u := u) (X := 5) (by simp)).c0; have x1 := (G11.out.getK (g := g2) (u := u) (X := 5) (by simp)).c1; have y0 := (G11.out.getK (g := g2 + 1) (u := v) (X := -7) (by simp)).c0; have y1 := (G11.out.getK (g := g2 + 1) (u := v) (X := -7) (by simp)).c1; clear b; have tk11 := tk10; clear tk10))
    | (have _t := tk11; go_at_call 24; clear _t; go_loud (refine (nrright_any A3 c3 4 q8 _ (G11.out.getN (A := A3) (c := c3) (by simp)) q8_len (by omega)).mono ?_; rintro e w11 ⟨rfl, b⟩; rw [q8_set.1.quad]; have G12 := Lib.hid (G11.out.step b); have f0 := (G12.out.getB (g := g3) (v := .slice A3 4 c3) (by simp)); have f1 := (G12.out.getB (g := g4) (v := .slice A4 0 c4) (by simp)); have x0 := (G12.out.getK (g := g2) (u := u) (X := 5) (by simp)).c0; have x1 := (G12.out.getK (g := g2) (u := u) (X := 5) (by simp)).c1; have y0 := (G12.out.getK (g := g2 + 1) (u := v) (X := -7) (by simp)).c0; have y1 := (G12.out.getK (g := g2 + 1) (u := v) (X := -7) (by simp)).c1; clear b; have tk12 := tk11; clear tk11)))
   go_ret
   exact ⟨rfl, G12.out.b⟩
 ·
  go_simp
  obtain ⟨g7, hg⟩ : ∃ g, g = W0.heap.size := ⟨_, rfl⟩
  obtain ⟨W1, hW⟩ : ∃ Z : World, Z = W0.alloc (.cells #[.slice none 0 0] 31) := ⟨_, rfl⟩
  have hbl := (Below.refl W0.heap.size W0).alloc (Nat.le_refl _) (.cells #[.slice none 0 0] 31)
  rw [← hW] at hbl
  have R1 := Lib.hid (show W1.heap[g7]? = some (.cells #[.slice none 0 0] 31) by rw [hW, hg]; exact heap_alloc_new W0 _)
  have GA := Lib.hid (show W0.heap.size ≤ g7 by rw [hg]; exact B0.out.size)
  have B1 := Lib.hid (B0.out.trans (hbl.mono B0.out.size))
  rw [← hg, ← hW]
  refine hK.out _ _ (cell8 (G6.out.step B1.out)) (fun _ => ?_)
  clear hK K hg hW hbl
  refine wpAnyH_ready (rs := [1]) (by kernel_rfl) (by simp) (AllReadyH.cons rfl (fun K hK => ?_) AllReadyH.nil)
  go_simp
  refine (rbpow_any _ _).mono ?_
  rintro e W2 h9
  rw [show shlI 1 (1328 : Int) = p2 1328 from pow_p2 1328 (by omega)] at h9
  obtain ⟨p, rfl, kp, bp⟩ := retI_bw h9
  dsimp only
  have lp := bw_len kp pow8.1 pow8.2
  have hcp := kp.us.cap
  have B2 := Lib.hid (B1.out.trans (bp.mono B1.out.size))
  have P2 := Lib.hid kp
  have R2 := Lib.hid ((bp.block g7 (heapLt R1.out)).trans R1.out)
  refine hK.out _ _ (cell8 (G6.out.step B2.out)) (fun _ => ?_)
  clear hK K h9 kp bp
  refine wpAnyH_ready (rs := [3]) (by kernel_rfl) (by simp) (AllReadyH.cons rfl (fun K hK => ?_) AllReadyH.nil)
  go_simp
  refine (set_bw A3 c3 4 q8 p v (p2 1328) (-7) 1 _ ((G6.out.step B2.out).getN (A := A3) (c := c3) (by simp)) q8_len (by omega) HA3.out q8_set.1 P2.out ((G6.out.step B2.out).getK (g := g2 + 1) (u := v) (X := -7) (by simp)).r (by omega) (by omega) (by omega)).mono ?_
  rintro e W3 ⟨A5, c5, q5_, er, rfl, n5, a5, b5, l5, s5⟩
  obtain ⟨rfl, rfl⟩ := s5.no (by omega) far8
  dsimp only
  have B3 := Lib.hid (B2.out.trans (b5.mono B2.out.size))
  have R3 := Lib.hid ((b5.block g7 (heapLt R2.out)).trans R2.out)
  refine hK.out _ _ (cell8 (G6.out.step B3.out)) (fun hS3 => ?_)
  clear hK K n5 a5 b5 l5 s5
  refine wpAnyH_take (i := 4) (v := ?_) rfl (by kernel_rfl) (by kernel_rfl) (by kernel_rfl) (fun _ _ _ h => h) (Or.inl ⟨by rfl, ?_⟩) hS3 ?_
  rotate_left
  ·
   rintro w' ⟨s1, s2, s3⟩
   go_simp
   first | done | with_reducible rfl | rfl
  simp only [Act.put, LA]
  refine wpAnyH_take (i := 5) (v := ?_) rfl (by kernel_rfl) (by kernel_rfl) (by kernel_rfl) (fun _ _ _ h => h) (Or.inl ⟨by rfl, ?_⟩) hS3 ?_
  rotate_left
  ·
   rintro w' ⟨s1, s2, s3⟩
   go_simp
   first | done | with_reducible rfl | rfl
  simp only [Act.put, LA]
  refine wpAnyH_take (i := 6) (v := ?_) rfl (by kernel_rfl) (by kernel_rfl) (by kernel_rfl) (fun _ _ _ h => h) (Or.inl ⟨by rfl, ?_⟩) hS3 ?_
  rotate_left
  ·
   rintro w' ⟨s1, s2, s3⟩
   go_simp
   first | done | with_reducible rfl | rfl
  simp only [Act.put, LA]
  refine wpAnyH_ready (rs := [8]) (by kernel_rfl) (by simp) (AllReadyH.cons rfl (fun K hK => ?_) AllReadyH.nil)
  have z0 := one_cell R3.out
  have z1 := one_free R3.out
  go_simp
  have BF := Lib.hid (B3.out.setCell (p := ⟨g7, 0, none⟩) GA.out (.slice A5 0 c5))
  have hS9 := cell8 (G6.out.step BF.out)
  refine hK.out _ _ hS9 (fun _ => ?_)
  clear hK K z0 z1
  refine wpAnyH_take (i := 9) (v := ?_) rfl (by kernel_rfl) (by kernel_rfl) (by kernel_rfl) (fun _ _ _ h => h) (Or.inl ⟨by rfl, ?_⟩) hS9 ?_
  rotate_left
  ·
   rintro w' ⟨s1, s2, s3⟩
   go_simp
   first | done | with_reducible rfl | rfl
  simp only [Act.put, LA]
  refine wpAnyH_done (by kernel_rfl) ?_ _
  refine NoPanic.normal ?_
  obtain ⟨V, hV⟩ : ∃ V : World, V = W3.setCell ⟨g7, 0, none⟩ (.slice A5 0 c5) := ⟨_, rfl⟩
  have G7 := Lib.hid (G6.out.step BF.out)
  rw [← hV] at G7 ⊢
  clear hV hS9
  have f0 := (G7.out.getB (g := g3) (v := .slice A3 4 c3) (by simp))
  have f1 := (G7.out.getB (g := g4) (v := .slice A4 0 c4) (by simp))
  have x0 := (G7.out.getK (g := g2) (u := u) (X := 5) (by simp)).c0
  have x1 := (G7.out.getK (g := g2) (u := u) (X := 5) (by simp)).c1
  have y0 := (G7.out.getK (g := g2 + 1) (u := v) (X := -7) (by simp)).c0
  have y1 := (G7.out.getK (g := g2 + 1) (u := v) (X := -7) (by simp)).c1
  have tk7 : True := trivial
  go_wp2_with (first
   | (have _t := tk7; go_at_call 16; clear _t; go_loud (refine (get_bw A3 c3 4 q8 u v 5 (-7) _ (G7.out.getN (A := A3) (c := c3) (by simp)) q8_len q8_set.1.1 (G7.out.getK (g := g2) (u := u) (X := 5) (by simp)).r (G7.out.getK (g := g2 + 1) (u := v) (X := -7) (by simp)).r (by omega) (by omega)).mono ?_; rintro e w7 ⟨rfl, b⟩; rw [show getQ q8 5 (-7) = 9 by rw [got8]; rfl]; have G8 := Lib.hid (G7.out.step b); have f0 := (G8.out.getB (g := g3) (v := .slice A3 4 c3) (by simp)); have f1 := (G8.out.getB (g := g4) (v := .slice A4 0 c4) (by simp)); have x0 := (G8.out.getK (g := g2) (u := u) (X := 5) (by simp)).c0; have x1 := (G8.out.getK (g := g2) (u := u) (X := 5) (by simp)).c1; have y0 := (G8.out.getK (g := g2 + 1) (u := v) (X := -7) (by simp)).c0; have y1 := (G8.out.getK (g := g2 + 1) (u := v) (X := -7) (by simp)).c1; clear b; have tk8 := tk7; clear tk7))
   | (have _t := tk8; go_at_call 16; clear _t; go_loud (refine (get_bw A3 c3 4 q8 v u (-7) 5 _ (G8.out.getN (A := A3) (c := c3) (by simp)) q8_len q8_set.1.1 (G8.out.getK (g := g2 + 1) (u := v) (X := -7) (by simp)).r (G8.out.getK (g := g2) (u := u) (X := 5) (by simp)).r (by omega) (by omega)).mono ?_; rintro e w8 ⟨rfl, b⟩; rw [show getQ q8 (-7) 5 = 0 by rw [got8]; rfl]; have G9 := Lib.hid (G8.out.step b); have f0 := (G9.out.getB (g := g3) (v := .slice A3 4 c3) (by simp)); have f1 := (G9.out.getB (g := g4) (v := .slice A4 0 c4) (by simp)); have x0 := (G9.out.getK (g := g2) (u := u) (X := 5) (by simp)).c0; have x1 := (G9.out.getK (g := g2) (u := u) (X := 5) (by simp)).c1; have y0 := (G9.out.getK (g := g2 + 1) (u := v) (X := -7) (by simp)).c0; have y1 := (G9.out.getK (g := g2 + 1) (u := v) (X := -7) (by simp)).c1; clear b; have tk9 := tk8; clear tk8))
   | (have _t := tk9; go_at_call 19; clear _t; go_loud (refine (most_lk A3 c3 4 q8 _ (G9.out.getN (A := A3) (c := c3) (by simp)) q8_len).mono ?_; rintro e w9 ⟨rfl, b⟩; rw [q8_most]; have G10 := Lib.hid (G9.out.step b); have f0 := (G10.out.getB (g := g3) (v := .slice A3 4 c3) (by simp)); have f1 := (G10.out.getB (g := g4) (v := .slice A4 0 c4) (by simp)); have x0 := (G10.out.getK (g := g2) (u := u) (X := 5) (by simp)).c0; have x1 := (G10.out.getK (g := g2) (u := u) (X := 5) (by simp)).c1; have y0 := (G10.out.getK (g := g2 + 1) (u := v) (X := -7) (by simp)).c0; have y1 := (G10.out.getK (g := g2 + 1) (u := v) (X := -7) (by simp)).c1; clear b; have tk10 := tk9; clear tk9))
   | (have _t := tk10; go_at_call 16; clear _t; go_loud (refine (get_bw none 0 0 [] u v 5 (-7) _ (ns_nil _) rfl rfl (G10.out.getK (g := g2) (u := u) (X := 5) (by simp)).r (G10.out.getK (g := g2 + 1) (u := v) (X := -7) (by simp)).r (by omega) (by omega)).mono ?_; rintro e w10 ⟨rfl, b⟩; rw [none8]; have G11 := Lib.hid (G10.out.step b); have f0 := (G11.out.getB (g := g3) (v := .slice A3 4 c3) (by simp)); have f1 := (G11.out.getB (g := g4) (v := .slice A4 0 c4) (by simp)); have x0 := (G11.out.getK (g := g2) (u := u) (X := 5) (by simp)).c0; have x1 := (G11.out.getK (g := g2) (u := u) (X := 5) (by simp)).c1; have y0 := (G11.out.getK (g := g2 + 1) (u := v) (X := -7) (by simp)).c0; have y1 := (G11.out.getK (g := g2 + 1) (u := v) (X := -7) (by simp)).c1; clear b; have tk11 := tk10; clear tk10))
   | (have _t := tk11; go_at_call 24; clear _t; go_loud (refine (nrright_any A3 c3 4 q8 _ (G11.out.getN (A := A3) (c := c3) (by simp)) q8_len (by omega)).mono ?_; rintro e w11 ⟨rfl, b⟩; rw [q8_set.1.quad]; have G12 := Lib.hid (G11.out.step b); have f0 := (G12.out.getB (g := g3) (v := .slice A3 4 c3) (by simp)); have f1 := (G12.out.getB (g := g4) (v := .slice A4 0 c4) (by simp)); have x0 := (G12.out.getK (g := g2) (u := u) (X := 5) (by simp)).c0; have x1 := (G12.out.getK (g := g2) (u := u) (X := 5) (by simp)).c1; have y0 := (G12.out.getK (g := g2 + 1) (u := v) (X := -7) (by simp)).c0; have y1 := (G12.out.getK (g := g2 + 1) (u := v) (X := -7) (by simp)).c1; clear b; have tk12 := tk11; clear tk11)))
  go_ret
  exact ⟨rfl, G12.out.b⟩
end Go.Proofs.Ytlnmcilcifbcnaa
