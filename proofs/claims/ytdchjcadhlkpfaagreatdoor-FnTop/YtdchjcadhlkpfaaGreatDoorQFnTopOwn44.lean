/- Several texts in one: DtD. -/
import Derived.Test.YtdchjcadhlkpfaaGreatDoorQFnTopOwn43
import Derived.Test.YtdchjcadhlkpfaaGreatDoorQFnTopOwn29
import Derived.Test.YtdchjcadhlkpfaaGreatDoorQFnTopOwn24
import Derived.Test.YtdchjcadhlkpfaaGreatDoorQFnTopOwn1
namespace Go.Proofs.YtdchjcadhlkpfaaGreatDoor
set_option linter.unusedVariables false
set_option linter.unusedSimpArgs false
set_option maxRecDepth 100000
set_option maxHeartbeats 8000000
section
open Go.RowKit Go.Sort
theorem bz {w : World} : cy (w.alloc (.cells #[.string ⟨#[111, 107]⟩] 9)) w.heap.size [cf] := au w [.string ⟨#[111, 107]⟩] 9
theorem fa : dc [cf] ⟨#[32]⟩ = cf := fX _ _
theorem dx : ∀ x ∈ [cf], x.size ≤ 1000 := by intro x h; rw [List.mem_singleton] at h; subst h; decide
theorem pd (w : World) (B : Nat) (t : Tk) (u : U4) (a : Option Addr) (cap : Nat) (p : Addr) (tx : ByteArray) (n : Int) (hk : ax t = true) (hB : B ≤ w.heap.size) (hC : ay w B t.L a cap) (hE : fC p w) :
  Calls Tryz.prog 93 #[.agg #[.slice a t.L.length cap, .int .i64 t.lim, .int .i64 t.mode, .int .i64 t.A, .int .i64 t.B, .int .i64 t.C, .int .i64 t.D, .int .i64 t.coast, .int .i64 t.fr, .int .i64 u.1, .int .i64 u.2.1, .int .i64 u.2.2.1, .int .i64 u.2.2.2], .agg #[.string tx, .int .i64 n]] w fun e w' => Ans w' B (t, u) ((eR t, u), cf) e ∧ Below w.heap.size w w' := by
 have hn : t.L.length ≤ 1048576 := Nat.le_trans (dF hk).1 (by decide)
 have hmx : maxLen ≤ 9223372036854775807 := by decide +kernel
 have hcz : gD t = 0 := by unfold gD; rw [if_pos hk]
 have hcp := du hC
 have HZ := yz (aH w (.cells #[.slice a t.L.length cap, .int .i64 t.lim, .int .i64 t.mode, .int .i64 t.A, .int .i64 t.B, .int .i64 t.C, .int .i64 t.D, .int .i64 t.coast, .int .i64 t.fr, .int .i64 u.1, .int .i64 u.2.1, .int .i64 u.2.2.1, .int .i64 u.2.2.2] 61) (.cells #[.string tx, .int .i64 n] 90))
 have hC0 := hC.kept (yy HZ)
 have hE0 := hE.kept (yy HZ)
 obtain ⟨u1, u2, u3, u4⟩ := u
 obtain ⟨L, lim, mode, A, B', C, D, coast, fr⟩ := t
 dsimp only at hn hC0 hcp HZ hE0 ⊢
 have cR := yz (lq L lim mode A B' C D coast fr a cap p _ hn hcp.1 (by omega) hE0.1 hC0.stars)
 rw [hcz] at cR
 have HD := yz ((au w [.slice a L.length cap, .int .i64 lim, .int .i64 mode, .int .i64 A, .int .i64 B', .int .i64 C, .int .i64 D, .int .i64 coast, .int .i64 fr, .int .i64 u1, .int .i64 u2, .int .i64 u3, .int .i64 u4] 61).alloc (.cells #[.string tx, .int .i64 n] 90))
 generalize eR ⟨L, lim, mode, A, B', C, D, coast, fr⟩ = t2 at *
 obtain ⟨L2, l2, m2, A2, B2, C2, D2, o2, f2⟩ := t2
 clear hC0 hC hE hE0 hk hcz
 obtain ⟨d0, d1, d2, d3, d4, d5, d6, d7, d8⟩ := gH (yy HD)
 go_enter Tryz.func93, Tryz.ntmps93
 go_wp2_with fail
 refine (yy cR).mono ?_
 rintro e W1 ⟨⟨a2, cap2, rfl, hC2⟩, hx⟩
 clear d0 d1 d2 d3 d4 d5 d6 d7 d8 cR
 have hal : ((w.alloc (.cells #[.slice a L.length cap, .int .i64 lim, .int .i64 mode, .int .i64 A, .int .i64 B', .int .i64 C, .int .i64 D, .int .i64 coast, .int .i64 fr, .int .i64 u1, .int .i64 u2, .int .i64 u3, .int .i64 u4] 61)).alloc (.cells #[.string tx, .int .i64 n] 90)).heap.size = w.heap.size + 2 := by simp
 have hy := an W1 (.cells #[.slice a2 L2.length cap2, .int .i64 l2, .int .i64 m2, .int .i64 A2, .int .i64 B2, .int .i64 C2, .int .i64 D2, .int .i64 o2, .int .i64 f2, .int .i64 0] 47)
 have HO := yz (au W1 [.slice a2 L2.length cap2, .int .i64 l2, .int .i64 m2, .int .i64 A2, .int .i64 B2, .int .i64 C2, .int .i64 D2, .int .i64 o2, .int .i64 f2, .int .i64 0] 47)
 have HD1 := yz (((yy HD).kept hx).kept hy)
 have HC1 : Hid (ay _ B L2 a2 cap2) := yz (ay.kept (eS hC2 (show B ≤ _ by omega)) hy)
 have HF : Hid (∀ x, a2 = some x → x.block ≠ w.heap.size) := yz (fun x e => by have := (dD hC2 x e).1; omega)
 have HB1 := yz (ak (ak (yy HZ) hx) hy)
 have hob : w.heap.size < W1.heap.size := by have := hx.size; omega
 clear hx hy hC2 HZ HD hal
 go_upto_region 2 with fail
 generalize W1.alloc (.cells #[.slice a2 L2.length cap2, .int .i64 l2, .int .i64 m2, .int .i64 A2, .int .i64 B2, .int .i64 C2, .int .i64 D2, .int .i64 o2, .int .i64 f2, .int .i64 0] 47) = W3 at *
 generalize W1.heap.size = ob at *
 have e0 := (yy HD1).cell 0 _ rfl
 have z0 := (yy HD1).free 0
 have y0 := (yy HO).cell 0 _ rfl
 have e1 := (yy HD1).cell 1 _ rfl
 have z1 := (yy HD1).free 1
 have y1 := (yy HO).cell 1 _ rfl
 have e2 := (yy HD1).cell 2 _ rfl
 have z2 := (yy HD1).free 2
 have y2 := (yy HO).cell 2 _ rfl
 have e3 := (yy HD1).cell 3 _ rfl
 have z3 := (yy HD1).free 3
 have y3 := (yy HO).cell 3 _ rfl
 have e4 := (yy HD1).cell 4 _ rfl
 have z4 := (yy HD1).free 4
 have y4 := (yy HO).cell 4 _ rfl
 have e5 := (yy HD1).cell 5 _ rfl
 have z5 := (yy HD1).free 5
 have y5 := (yy HO).cell 5 _ rfl
 have e6 := (yy HD1).cell 6 _ rfl
 have z6 := (yy HD1).free 6
 have y6 := (yy HO).cell 6 _ rfl
 have e7 := (yy HD1).cell 7 _ rfl
 have z7 := (yy HD1).free 7
 have y7 := (yy HO).cell 7 _ rfl
 have e8 := (yy HD1).cell 8 _ rfl
 have z8 := (yy HD1).free 8
 have y8 := (yy HO).cell 8 _ rfl
 go_upto_region 3 with fail
 have HD2 := yz (iT (yy HD1) (.slice a2 L2.length cap2) (.int .i64 l2) (.int .i64 m2) (.int .i64 A2) (.int .i64 B2) (.int .i64 C2) (.int .i64 D2) (.int .i64 o2) (.int .i64 f2))
 have hg := gy W3 w.heap.size (.slice a2 L2.length cap2) (.int .i64 l2) (.int .i64 m2) (.int .i64 A2) (.int .i64 B2) (.int .i64 C2) (.int .i64 D2) (.int .i64 o2) (.int .i64 f2)
 have HO2 := yz (Blk.grown (yy HO) hg (fun e => by have := Option.some.inj e; omega))
 have HC2 : Hid (ay _ B L2 a2 cap2) := yz (dv (yy HC1) hg (yy HF))
 have HB2 := yz (dz (yy HB1) hg (Nat.le_refl _))
 clear hg HD1 HO HC1 HB1 e0 z0 y0 e1 z1 y1 e2 z2 y2 e3 z3 y3 e4 z4 y4 e5 z5 y5 e6 z6 y6 e7 z7 y7 e8 z8 y8
 generalize (((((((((W3.setCell ⟨w.heap.size, 0, none⟩ (.slice a2 L2.length cap2)).setCell ⟨w.heap.size, 1, none⟩ (.int .i64 l2)).setCell ⟨w.heap.size, 2, none⟩ (.int .i64 m2)).setCell ⟨w.heap.size, 3, none⟩ (.int .i64 A2)).setCell ⟨w.heap.size, 4, none⟩ (.int .i64 B2)).setCell ⟨w.heap.size, 5, none⟩ (.int .i64 C2)).setCell ⟨w.heap.size, 6, none⟩ (.int .i64 D2)).setCell ⟨w.heap.size, 7, none⟩ (.int .i64 o2)).setCell ⟨w.heap.size, 8, none⟩ (.int .i64 f2)) = W4 at *
 obtain ⟨e0, e1, e2, e3, e4, e5, e6, e7, e8, e9, e10, e11, e12⟩ := sU (yy HD2)
 have y9 := (yy HO2).cell 9 _ rfl
 go_wp2_with fail
 refine (bT a2 L2.length cap2 l2 m2 A2 B2 C2 D2 o2 f2 u1 u2 u3 u4 (some ⟨W4.heap.size, 0, none⟩) 1 1 _).mono ?_
 rintro e V6 ⟨rfl, hx⟩
 have hy := an W4 (.cells #[.string ⟨#[111, 107]⟩] 9)
 have HA : Hid (Ans V6 B (⟨L, lim, mode, A, B', C, D, coast, fr⟩, (u1, u2, u3, u4)) ((⟨L2, l2, m2, A2, B2, C2, D2, o2, f2⟩, (u1, u2, u3, u4)), cf) (.returned (.iface 99 (.agg #[.slice a2 L2.length cap2, .int .i64 l2, .int .i64 m2, .int .i64 A2, .int .i64 B2, .int .i64 C2, .int .i64 D2, .int .i64 o2, .int .i64 f2, .int .i64 u1, .int .i64 u2, .int .i64 u3, .int .i64 u4, .slice (some ⟨W4.heap.size, 0, none⟩) 1 1])))) := yz (.inr ⟨a2, cap2, W4.heap.size, [cf], rfl, ((yy HC2).kept hy).kept hx, bz.kept hx, by simp, dx, fa⟩)
 have HB6 := yz (ak (ak (yy HB2) hy) hx)
 clear hx hy e0 e1 e2 e3 e4 e5 e6 e7 e8 e9 e10 e11 e12 y9
 go_wp2_with fail
 go_ret
 exact ⟨yy HA, yy HB6⟩
theorem gt (s : ByteArray) (w : World) (hs : s.size ≤ 9223372036854775807) (ht : Tab w) :
  Calls Tryz.prog 111 #[.string s] w fun e w' => e = .returned (.agg #[.int .i64 (rd1 s), .int .i64 (rd2 s), .int .i64 (rd3 s), .int .i64 (rd4 s), .int .i64 (ch s)]) ∧ Below w.heap.size w w' := mE s w hs ht
theorem lU {W : World} {b : Nat} {v0 v1 v2 v3 v4 v5 v6 v7 v8 v9 v10 v11 v12 : Value} {t : TypeId} (h : Blk W b [v0, v1, v2, v3, v4, v5, v6, v7, v8, v9, v10, v11, v12] t) (x0 x1 x2 x3 : Value) : Blk ((((W.setCell ⟨b, 9, none⟩ x0).setCell ⟨b, 10, none⟩ x1).setCell ⟨b, 11, none⟩ x2).setCell ⟨b, 12, none⟩ x3) b [v0, v1, v2, v3, v4, v5, v6, v7, v8, x0, x1, x2, x3] t := Blk.set (Blk.set (Blk.set (Blk.set h 9 x0) 10 x1) 11 x2) 12 x3
theorem kr (W : World) (b : Nat) (x0 x1 x2 x3 : Value) : W.grownBy ((((W.setCell ⟨b, 9, none⟩ x0).setCell ⟨b, 10, none⟩ x1).setCell ⟨b, 11, none⟩ x2).setCell ⟨b, 12, none⟩ x3) (some b) := aE (aE (aE (aE (eF (Below.refl _ _)) 9 _) 10 _) 11 _) 12 _
def jB (a b c : Int) : Int := if a ≠ 0 then a else iA b c
theorem fL (a b c : Int) (k : Nat) (w : World) (h : Blk w k [.int .i64 a, .int .i64 b, .int .i64 c] 2) : Calls Tryz.prog 114 #[.slice (some ⟨k, 0, none⟩) 3 3] w fun e w' => e = .returned (.int .i64 (jB a b c)) ∧ Below w.heap.size w w' := by
 obtain ⟨h0, h1, h2⟩ := jD (h)
 by_cases ha : a = 0
 ·subst ha
  by_cases hb : b = 0
  ·subst hb
   by_cases hc : c = 0
   ·have HF : Hid (jB 0 0 c = 0) := yz (by rw [hc]; rfl)
    subst hc
    go_enter Tryz.func114, Tryz.ntmps114
    go_wp2_with fail
    refine wp_loop_rounds 4 ?_
    rw [rounds_succ]
    go_wp2_with fail
    rw [rounds_succ]
    go_wp2_with fail
    rw [rounds_succ]
    go_wp2_with fail
    rw [rounds_succ]
    go_wp2_with fail
    go_ret
    rw [yy HF]
    exact ⟨rfl, Below.refl _ _⟩
   ·have HF : Hid (jB 0 0 c = c) := yz rfl
    have hc' : (c == 0) = false := by simpa using hc
    go_enter Tryz.func114, Tryz.ntmps114
    go_wp2_with fail
    refine wp_loop_rounds 3 ?_
    rw [rounds_succ]
    go_wp2_with fail
    rw [rounds_succ]
    go_wp2_with fail
    rw [rounds_succ]
    go_wp2_with fail
    go_ret
    rw [yy HF]
    exact ⟨rfl, Below.refl _ _⟩
  ·have HF : Hid (jB 0 b c = b) := yz (by unfold jB iA; rw [if_neg (by omega), if_pos hb])
   have hb' : (b == 0) = false := by simpa using hb
   go_enter Tryz.func114, Tryz.ntmps114
   go_wp2_with fail
   refine wp_loop_rounds 2 ?_
   rw [rounds_succ]
   go_wp2_with fail
   rw [rounds_succ]
   go_wp2_with fail
   go_ret
   rw [yy HF]
   exact ⟨rfl, Below.refl _ _⟩
 ·have HF : Hid (jB a b c = a) := yz (by unfold jB; rw [if_pos ha])
  have ha' : (a == 0) = false := by simpa using ha
  go_enter Tryz.func114, Tryz.ntmps114
  go_wp2_with fail
  refine wp_loop_rounds 1 ?_
  rw [rounds_succ]
  go_wp2_with fail
  go_ret
  rw [yy HF]
  exact ⟨rfl, Below.refl _ _⟩
theorem pG (w : World) (B : Nat) (t : Tk) (u : U4) (a : Option Addr) (cap : Nat) (p : Addr) (tx : ByteArray) (n : Int) (hs : tx.size ≤ 9223372036854775807) (hk : ax t = true) (hB : B ≤ w.heap.size) (hC : ay w B t.L a cap) (hE : fC p w) :
  Calls Tryz.prog 89 #[.agg #[.slice a t.L.length cap, .int .i64 t.lim, .int .i64 t.mode, .int .i64 t.A, .int .i64 t.B, .int .i64 t.C, .int .i64 t.D, .int .i64 t.coast, .int .i64 t.fr, .int .i64 u.1, .int .i64 u.2.1, .int .i64 u.2.2.1, .int .i64 u.2.2.2], .agg #[.string tx, .int .i64 n]] w fun e w' => Ans w' B (t, u) (cj t u tx false) e ∧ Below w.heap.size w w' := by
 have hn : t.L.length ≤ 1048576 := Nat.le_trans (dF hk).1 (by decide)
 have hmx : maxLen ≤ 9223372036854775807 := by decide +kernel
 have hcp := du hC
 have HZ := yz (aH w (.cells #[.slice a t.L.length cap, .int .i64 t.lim, .int .i64 t.mode, .int .i64 t.A, .int .i64 t.B, .int .i64 t.C, .int .i64 t.D, .int .i64 t.coast, .int .i64 t.fr, .int .i64 u.1, .int .i64 u.2.1, .int .i64 u.2.2.1, .int .i64 u.2.2.2] 61) (.cells #[.string tx, .int .i64 n] 90))
 have hC0 := hC.kept (yy HZ)
 have hE0 := hE.kept (yy HZ)
 have HFR : Hid (∀ x, a = some x → x.block < w.heap.size) := yz (fun x e => (dD hC x e).2)
 have HC : Hid (cj t u tx false = if ch tx = 0 then (if fD tx u = 0 then ((t, sq tx u), cf) else ((t, u), ew (fD tx u).toNat)) else ((t, u), ew (ch tx).toNat)) := yz rfl
 have cR := yz (gt tx _ hs hE0.2)
 have hsp1 := gK tx
 have hsp2 : 0 ≤ fD tx u ∧ fD tx u ≤ 9 := kH _ _ _ _ _ _ _ _
 unfold sq fD at HC
 unfold fD at hsp2
 generalize cj t u tx false = R at *
 generalize rd1 tx = g1 at *
 generalize rd2 tx = g2 at *
 generalize rd3 tx = g3 at *
 generalize rd4 tx = g4 at *
 generalize ch tx = gc at *
 obtain ⟨u1, u2, u3, u4⟩ := u
 obtain ⟨L, lim, mode, A, B', C, D, coast, fr⟩ := t
 dsimp only at hn hC0 hcp HZ hE0 HC hsp2 cR ⊢
 have cC := yz (fun W => iU g1 g2 g3 g4 u1 u2 u3 u4 W)
 generalize mz g1 g2 g3 g4 u1 u2 u3 u4 = x1 at *
 generalize mt g1 g2 g3 g4 u1 u2 u3 u4 = x2 at *
 generalize mV g1 g2 g3 g4 u1 u2 u3 u4 = x3 at *
 generalize mT g1 g2 g3 g4 u1 u2 u3 u4 = x4 at *
 generalize coK g1 g2 g3 g4 u1 u2 u3 u4 = xk at *
 have HD := yz ((au w [.slice a L.length cap, .int .i64 lim, .int .i64 mode, .int .i64 A, .int .i64 B', .int .i64 C, .int .i64 D, .int .i64 coast, .int .i64 fr, .int .i64 u1, .int .i64 u2, .int .i64 u3, .int .i64 u4] 61).alloc (.cells #[.string tx, .int .i64 n] 90))
 have HX : Hid (Blk ((w.alloc (.cells #[.slice a L.length cap, .int .i64 lim, .int .i64 mode, .int .i64 A, .int .i64 B', .int .i64 C, .int .i64 D, .int .i64 coast, .int .i64 fr, .int .i64 u1, .int .i64 u2, .int .i64 u3, .int .i64 u4] 61)).alloc (.cells #[.string tx, .int .i64 n] 90)) (w.heap.size + 1) [.string tx, .int .i64 n] 90) := yz (by have h := au (w.alloc (.cells #[.slice a L.length cap, .int .i64 lim, .int .i64 mode, .int .i64 A, .int .i64 B', .int .i64 C, .int .i64 D, .int .i64 coast, .int .i64 fr, .int .i64 u1, .int .i64 u2, .int .i64 u3, .int .i64 u4] 61)) [.string tx, .int .i64 n] 90; simpa using h)
 have HCC := yz hC0
 have HE := yz hE0
 have c0 := (yy HX).cell 0 _ rfl
 clear hC hE hC0 hE0
 go_enter Tryz.func89, Tryz.ntmps89
 go_wp2_with fail
 refine (yy cR).mono ?_
 rintro e W1 ⟨rfl, hx⟩
 have hal : ((w.alloc (.cells #[.slice a L.length cap, .int .i64 lim, .int .i64 mode, .int .i64 A, .int .i64 B', .int .i64 C, .int .i64 D, .int .i64 coast, .int .i64 fr, .int .i64 u1, .int .i64 u2, .int .i64 u3, .int .i64 u4] 61)).alloc (.cells #[.string tx, .int .i64 n] 90)).heap.size = w.heap.size + 2 := by simp
 have hy := an W1 (.cells #[.int .i64 g1, .int .i64 g2, .int .i64 g3, .int .i64 g4, .int .i64 gc] 108)
 have HG1 := yz (au W1 [.int .i64 g1, .int .i64 g2, .int .i64 g3, .int .i64 g4, .int .i64 gc] 108)
 have HD1 := yz (((yy HD).kept hx).kept hy)
 have HC1 := yz (((yy HCC).kept hx).kept hy)
 have HE1 := yz (((yy HE).kept hx).kept hy)
 have HB1 := yz (ak (ak (yy HZ) hx) hy)
 have hgb : w.heap.size < W1.heap.size := by have := hx.size; omega
 clear hx hy HD HX HCC HE HZ hal c0 cR
 go_upto_region 2 with fail
 generalize W1.alloc (.cells #[.int .i64 g1, .int .i64 g2, .int .i64 g3, .int .i64 g4, .int .i64 gc] 108) = W at *
 generalize W1.heap.size = gb at *
 obtain ⟨k0, k1, k2, k3⟩ := uN (yy HG1)
 have d9 := (yy HD1).cell 9 _ rfl
 have d10 := (yy HD1).cell 10 _ rfl
 have d11 := (yy HD1).cell 11 _ rfl
 have d12 := (yy HD1).cell 12 _ rfl
 go_wp2_with fail
 refine ((yy cC) _).mono ?_
 rintro e W2 ⟨rfl, hx⟩
 have hy := an W2 (.cells #[.int .i64 x1, .int .i64 x2, .int .i64 x3, .int .i64 x4, .int .i64 xk] 108)
 have HX2 := yz (au W2 [.int .i64 x1, .int .i64 x2, .int .i64 x3, .int .i64 x4, .int .i64 xk] 108)
 have HG2 := yz (((yy HG1).kept hx).kept hy)
 have HD2 := yz (((yy HD1).kept hx).kept hy)
 have HC2 := yz (((yy HC1).kept hx).kept hy)
 have HE2 := yz (((yy HE1).kept hx).kept hy)
 have HB2 := yz (ak (ak (yy HB1) hx) hy)
 have hxb : w.heap.size < W2.heap.size := by have := hx.size; have := (yy HG1).lt; omega
 clear hx hy HG1 HD1 HC1 HE1 HB1 k0 k1 k2 k3 d9 d10 d11 d12 cC
 go_upto_region 3 with fail
 generalize W2.alloc (.cells #[.int .i64 x1, .int .i64 x2, .int .i64 x3, .int .i64 x4, .int .i64 xk] 108) = W3 at *
 generalize W2.heap.size = xb at *
 obtain ⟨k0, k1, k2, k3⟩ := uN (yy HX2)
 have d9 := (yy HD2).cell 9 _ rfl
 have z9 := (yy HD2).free 9
 have d10 := (yy HD2).cell 10 _ rfl
 have z10 := (yy HD2).free 10
 have d11 := (yy HD2).cell 11 _ rfl
 have z11 := (yy HD2).free 11
 have d12 := (yy HD2).cell 12 _ rfl
 have z12 := (yy HD2).free 12
 go_upto_region 4 with fail
 have HD4 := yz (lU (yy HD2) (.int .i64 x1) (.int .i64 x2) (.int .i64 x3) (.int .i64 x4))
 have hg := kr W3 w.heap.size (.int .i64 x1) (.int .i64 x2) (.int .i64 x3) (.int .i64 x4)
 have HKxb := yz (Blk.grown (yy HX2) hg (fun e => by have := Option.some.inj e; omega))
 have HKgb := yz (Blk.grown (yy HG2) hg (fun e => by have := Option.some.inj e; omega))
 have HC4 : Hid (ay _ B L a cap) := yz (dv (yy HC2) hg (fun x e => Nat.ne_of_lt (yy HFR x e)))
 have HB4 := yz (dz (yy HB2) hg (Nat.le_refl _))
 clear hg HD2 HX2 HG2 HC2 HB2 k0 k1 k2 k3 d9 d10 d11 d12 z9 z10 z11 z12
 generalize ((((W3.setCell ⟨w.heap.size, 9, none⟩ (.int .i64 x1)).setCell ⟨w.heap.size, 10, none⟩ (.int .i64 x2)).setCell ⟨w.heap.size, 11, none⟩ (.int .i64 x3)).setCell ⟨w.heap.size, 12, none⟩ (.int .i64 x4)) = W4 at *
 have HSUM : Hid ((iA gc xk = 0 ∧ R = ((⟨L, lim, mode, A, B', C, D, coast, fr⟩, (x1, x2, x3, x4)), cf)) ∨ (∃ kk : Nat, iA gc xk = (kk : Int) ∧ 0 < kk ∧ kk ≤ 1000 ∧ R = ((⟨L, lim, mode, A, B', C, D, coast, fr⟩, (u1, u2, u3, u4)), ew kk))) := yz (by
  by_cases hg : gc = 0
  ·rw [if_pos hg] at HC
   by_cases hx : xk = 0
   ·rw [if_pos hx] at HC
    exact .inl ⟨by unfold iA; rw [if_neg (by omega)]; exact hx, yy HC⟩
   ·rw [if_neg hx] at HC
    exact .inr ⟨xk.toNat, by unfold iA; rw [if_neg (by omega)]; omega, by omega, by omega, yy HC⟩
  ·rw [if_neg hg] at HC
   exact .inr ⟨gc.toNat, by unfold iA; rw [if_pos hg]; omega, by omega, by omega, yy HC⟩)
 clear HC
 have hdl : w.heap.size < W4.heap.size := (yy HD4).lt
 have hlgb : gb < W4.heap.size := (yy HKgb).lt
 have hlxb : xb < W4.heap.size := (yy HKxb).lt
 have HKS : Hid (∀ w' : World, Below W4.heap.size W4 w' → (w'.cell? ⟨w.heap.size, 0, none⟩ = some (.slice a L.length cap) ∧ w'.cell? ⟨w.heap.size, 1, none⟩ = some (.int .i64 lim) ∧ w'.cell? ⟨w.heap.size, 2, none⟩ = some (.int .i64 mode) ∧ w'.cell? ⟨w.heap.size, 3, none⟩ = some (.int .i64 A) ∧ w'.cell? ⟨w.heap.size, 4, none⟩ = some (.int .i64 B') ∧ w'.cell? ⟨w.heap.size, 5, none⟩ = some (.int .i64 C) ∧ w'.cell? ⟨w.heap.size, 6, none⟩ = some (.int .i64 D) ∧ w'.cell? ⟨w.heap.size, 7, none⟩ = some (.int .i64 coast) ∧ w'.cell? ⟨w.heap.size, 8, none⟩ = some (.int .i64 fr) ∧ w'.cell? ⟨w.heap.size, 9, none⟩ = some (.int .i64 x1) ∧ w'.cell? ⟨w.heap.size, 10, none⟩ = some (.int .i64 x2) ∧ w'.cell? ⟨w.heap.size, 11, none⟩ = some (.int .i64 x3) ∧ w'.cell? ⟨w.heap.size, 12, none⟩ = some (.int .i64 x4)) ∧ w'.cell? ⟨gb, 4, none⟩ = some (.int .i64 gc) ∧ w'.cell? ⟨xb, 4, none⟩ = some (.int .i64 xk)) := yz (fun w' h => ⟨⟨by rw [h.cell hdl]; exact (yy HD4).cell 0 _ rfl, by rw [h.cell hdl]; exact (yy HD4).cell 1 _ rfl, by rw [h.cell hdl]; exact (yy HD4).cell 2 _ rfl, by rw [h.cell hdl]; exact (yy HD4).cell 3 _ rfl, by rw [h.cell hdl]; exact (yy HD4).cell 4 _ rfl, by rw [h.cell hdl]; exact (yy HD4).cell 5 _ rfl, by rw [h.cell hdl]; exact (yy HD4).cell 6 _ rfl, by rw [h.cell hdl]; exact (yy HD4).cell 7 _ rfl, by rw [h.cell hdl]; exact (yy HD4).cell 8 _ rfl, by rw [h.cell hdl]; exact (yy HD4).cell 9 _ rfl, by rw [h.cell hdl]; exact (yy HD4).cell 10 _ rfl, by rw [h.cell hdl]; exact (yy HD4).cell 11 _ rfl, by rw [h.cell hdl]; exact (yy HD4).cell 12 _ rfl⟩, by rw [h.cell hlgb]; exact (yy HKgb).cell 4 _ rfl, by rw [h.cell hlxb]; exact (yy HKxb).cell 4 _ rfl⟩)
 rcases yy HSUM with ⟨hcd, hRR⟩ | ⟨kk, hcd, hk0, hk1, hRR⟩
 ·have HRR := yz hRR
  have cF := fun nb W h => fG gc xk nb W h
  rw [hcd] at cF
  clear hRR hcd
  refine wp_region_held_drew (S := (fun w' => (w'.cell? ⟨w.heap.size, 0, none⟩ = some (.slice a L.length cap) ∧ w'.cell? ⟨w.heap.size, 1, none⟩ = some (.int .i64 lim) ∧ w'.cell? ⟨w.heap.size, 2, none⟩ = some (.int .i64 mode) ∧ w'.cell? ⟨w.heap.size, 3, none⟩ = some (.int .i64 A) ∧ w'.cell? ⟨w.heap.size, 4, none⟩ = some (.int .i64 B') ∧ w'.cell? ⟨w.heap.size, 5, none⟩ = some (.int .i64 C) ∧ w'.cell? ⟨w.heap.size, 6, none⟩ = some (.int .i64 D) ∧ w'.cell? ⟨w.heap.size, 7, none⟩ = some (.int .i64 coast) ∧ w'.cell? ⟨w.heap.size, 8, none⟩ = some (.int .i64 fr) ∧ w'.cell? ⟨w.heap.size, 9, none⟩ = some (.int .i64 x1) ∧ w'.cell? ⟨w.heap.size, 10, none⟩ = some (.int .i64 x2) ∧ w'.cell? ⟨w.heap.size, 11, none⟩ = some (.int .i64 x3) ∧ w'.cell? ⟨w.heap.size, 12, none⟩ = some (.int .i64 x4)) ∧ w'.cell? ⟨gb, 4, none⟩ = some (.int .i64 gc) ∧ w'.cell? ⟨xb, 4, none⟩ = some (.int .i64 xk))) (by kernel_rfl) (yy HKS W4 (Below.refl _ _)) (fun hHeld => ?_)
  refine ac 0 rfl ?_
  try simp only [Act.put, ah, ai, aj]
  refine ac 1 rfl ?_
  try simp only [Act.put, ah, ai, aj]
  refine ac 2 rfl ?_
  try simp only [Act.put, ah, ai, aj]
  refine ac 3 rfl ?_
  try simp only [Act.put, ah, ai, aj]
  refine ac 4 rfl ?_
  try simp only [Act.put, ah, ai, aj]
  have HV : Hid (Below W4.heap.size W4 W4.drew) := yz (Below.refl W4.heap.size W4).drew
  obtain ⟨YY, HYY⟩ : ∃ YY, YY = W4.drew := ⟨_, rfl⟩
  rw [← HYY] at HV hHeld ⊢
  clear HYY
  refine ag 5 7 rfl (fun K hK => ?_) rfl fun K hK => ?_
  ·skip
   go_simp
   have HN : Hid (Blk (YY.alloc (.cells #[.int .i64 gc, .int .i64 xk] 2)) YY.heap.size [.int .i64 gc, .int .i64 xk] 2) := yz (au YY [.int .i64 gc, .int .i64 xk] 2)
   have hy := an YY (.cells #[.int .i64 gc, .int .i64 xk] 2)
   replace HV := yz (ak (yy HV) hy)
   clear hy
   generalize YY.alloc (.cells #[.int .i64 gc, .int .i64 xk] 2) = Y0 at *
   generalize YY.heap.size = nb at *
   refine hK.out _ _ (yy HKS _ (yy HV)) (fun hH1 => ?_)
   clear hK K hHeld
   refine ag 6 7 rfl (fun K hK => ?_) rfl fun K hK => ?_
   ·skip
    go_simp
    refine (cF nb Y0 (yy HN)).mono ?_
    rintro e Y1 ⟨rfl, hx⟩
    replace HV := yz (ak (yy HV) hx)
    clear hx HN
    refine hK.out _ _ (yy HKS _ (yy HV)) (fun hH2 => ?_)
    clear hK K hH1
    refine af 7 rfl fun K hK => ?_
    go_simp
    have HWD : Hid (cy (Y1.alloc (.cells #[.string ⟨#[111, 107]⟩] 9)) Y1.heap.size [cf]) := yz bz
    have hy := an Y1 (.cells #[.string ⟨#[111, 107]⟩] 9)
    replace HV := yz (ak (yy HV) hy)
    clear hy
    generalize Y1.alloc (.cells #[.string ⟨#[111, 107]⟩] 9) = Y2 at *
    generalize Y1.heap.size = ob at *
    refine hK.out _ _ (yy HKS _ (yy HV)) (fun hH3 => ?_)
    clear hK K hH2
    refine af 8 rfl fun K hK => ?_
    go_simp
    refine (bT a L.length cap lim mode A B' C D coast fr x1 x2 x3 x4 (some ⟨ob, 0, none⟩) 1 1 Y2).mono ?_
    rintro e Y3 ⟨rfl, hx⟩
    have HV6 := yz (ak (yy HV) hx)
    have HA : Hid (Ans Y3 B (⟨L, lim, mode, A, B', C, D, coast, fr⟩, (u1, u2, u3, u4)) R (.returned (.iface 99 (.agg #[.slice a L.length cap, .int .i64 lim, .int .i64 mode, .int .i64 A, .int .i64 B', .int .i64 C, .int .i64 D, .int .i64 coast, .int .i64 fr, .int .i64 x1, .int .i64 x2, .int .i64 x3, .int .i64 x4, .slice (some ⟨ob, 0, none⟩) 1 1])))) := yz (by rw [yy HRR]; exact .inr ⟨a, cap, ob, [cf], rfl, ((yy HC4).kept (yy HV)).kept hx, (yy HWD).kept hx, by simp, dx, fa⟩)
    clear hx
    refine hK.out _ _ (yy HKS _ (yy HV6)) (fun hHx => ?_)
    clear hK K hH3
    refine af 9 rfl fun K hK => ?_
    go_simp
    refine hK.out _ _ (yy HKS _ (yy HV6)) (fun hHy => ?_)
    clear hK K hHx
    refine wpAnyH_done (by kernel_rfl) ?_ _
    clear hHy
    go_wp2_with fail
    go_ret
    exact ⟨yy HA, ak (yy HB4) (yy HV6)⟩
   ·skip
    go_simp
    have HWD : Hid (cy (Y0.alloc (.cells #[.string ⟨#[111, 107]⟩] 9)) Y0.heap.size [cf]) := yz bz
    have hy := an Y0 (.cells #[.string ⟨#[111, 107]⟩] 9)
    replace HV := yz (ak (yy HV) hy)
    replace HN := yz ((yy HN).kept hy)
    clear hy
    generalize Y0.alloc (.cells #[.string ⟨#[111, 107]⟩] 9) = Y1 at *
    generalize Y0.heap.size = ob at *
    refine hK.out _ _ (yy HKS _ (yy HV)) (fun hH4 => ?_)
    clear hK K hH1
    refine af 6 rfl fun K hK => ?_
    go_simp
    refine (cF nb Y1 (yy HN)).mono ?_
    rintro e Y2 ⟨rfl, hx⟩
    replace HV := yz (ak (yy HV) hx)
    replace HWD := yz ((yy HWD).kept hx)
    clear hx HN
    refine hK.out _ _ (yy HKS _ (yy HV)) (fun hH5 => ?_)
    clear hK K hH4
    refine af 8 rfl fun K hK => ?_
    go_simp
    refine (bT a L.length cap lim mode A B' C D coast fr x1 x2 x3 x4 (some ⟨ob, 0, none⟩) 1 1 Y2).mono ?_
    rintro e Y3 ⟨rfl, hx⟩
    have HV6 := yz (ak (yy HV) hx)
    have HA : Hid (Ans Y3 B (⟨L, lim, mode, A, B', C, D, coast, fr⟩, (u1, u2, u3, u4)) R (.returned (.iface 99 (.agg #[.slice a L.length cap, .int .i64 lim, .int .i64 mode, .int .i64 A, .int .i64 B', .int .i64 C, .int .i64 D, .int .i64 coast, .int .i64 fr, .int .i64 x1, .int .i64 x2, .int .i64 x3, .int .i64 x4, .slice (some ⟨ob, 0, none⟩) 1 1])))) := yz (by rw [yy HRR]; exact .inr ⟨a, cap, ob, [cf], rfl, ((yy HC4).kept (yy HV)).kept hx, (yy HWD).kept hx, by simp, dx, fa⟩)
    clear hx
    refine hK.out _ _ (yy HKS _ (yy HV6)) (fun hHx => ?_)
    clear hK K hH5
    refine af 9 rfl fun K hK => ?_
    go_simp
    refine hK.out _ _ (yy HKS _ (yy HV6)) (fun hHy => ?_)
    clear hK K hHx
    refine wpAnyH_done (by kernel_rfl) ?_ _
    clear hHy
    go_wp2_with fail
    go_ret
    exact ⟨yy HA, ak (yy HB4) (yy HV6)⟩
  ·skip
   go_simp
   have HWD : Hid (cy (YY.alloc (.cells #[.string ⟨#[111, 107]⟩] 9)) YY.heap.size [cf]) := yz bz
   have hy := an YY (.cells #[.string ⟨#[111, 107]⟩] 9)
   replace HV := yz (ak (yy HV) hy)
   clear hy
   generalize YY.alloc (.cells #[.string ⟨#[111, 107]⟩] 9) = Y0 at *
   generalize YY.heap.size = ob at *
   refine hK.out _ _ (yy HKS _ (yy HV)) (fun hH6 => ?_)
   clear hK K hHeld
   refine af 5 rfl fun K hK => ?_
   go_simp
   have HN : Hid (Blk (Y0.alloc (.cells #[.int .i64 gc, .int .i64 xk] 2)) Y0.heap.size [.int .i64 gc, .int .i64 xk] 2) := yz (au Y0 [.int .i64 gc, .int .i64 xk] 2)
   have hy := an Y0 (.cells #[.int .i64 gc, .int .i64 xk] 2)
   replace HV := yz (ak (yy HV) hy)
   replace HWD := yz ((yy HWD).kept hy)
   clear hy
   generalize Y0.alloc (.cells #[.int .i64 gc, .int .i64 xk] 2) = Y1 at *
   generalize Y0.heap.size = nb at *
   refine hK.out _ _ (yy HKS _ (yy HV)) (fun hH7 => ?_)
   clear hK K hH6
   refine af 6 rfl fun K hK => ?_
   go_simp
   refine (cF nb Y1 (yy HN)).mono ?_
   rintro e Y2 ⟨rfl, hx⟩
   replace HV := yz (ak (yy HV) hx)
   replace HWD := yz ((yy HWD).kept hx)
   clear hx HN
   refine hK.out _ _ (yy HKS _ (yy HV)) (fun hH8 => ?_)
   clear hK K hH7
   refine af 8 rfl fun K hK => ?_
   go_simp
   refine (bT a L.length cap lim mode A B' C D coast fr x1 x2 x3 x4 (some ⟨ob, 0, none⟩) 1 1 Y2).mono ?_
   rintro e Y3 ⟨rfl, hx⟩
   have HV6 := yz (ak (yy HV) hx)
   have HA : Hid (Ans Y3 B (⟨L, lim, mode, A, B', C, D, coast, fr⟩, (u1, u2, u3, u4)) R (.returned (.iface 99 (.agg #[.slice a L.length cap, .int .i64 lim, .int .i64 mode, .int .i64 A, .int .i64 B', .int .i64 C, .int .i64 D, .int .i64 coast, .int .i64 fr, .int .i64 x1, .int .i64 x2, .int .i64 x3, .int .i64 x4, .slice (some ⟨ob, 0, none⟩) 1 1])))) := yz (by rw [yy HRR]; exact .inr ⟨a, cap, ob, [cf], rfl, ((yy HC4).kept (yy HV)).kept hx, (yy HWD).kept hx, by simp, dx, fa⟩)
   clear hx
   refine hK.out _ _ (yy HKS _ (yy HV6)) (fun hHx => ?_)
   clear hK K hH8
   refine af 9 rfl fun K hK => ?_
   go_simp
   refine hK.out _ _ (yy HKS _ (yy HV6)) (fun hHy => ?_)
   clear hK K hHx
   refine wpAnyH_done (by kernel_rfl) ?_ _
   clear hHy
   go_wp2_with fail
   go_ret
   exact ⟨yy HA, ak (yy HB4) (yy HV6)⟩
 ·have HRR := yz hRR
  have cF := fun nb W h => fG gc xk nb W h
  rw [hcd] at cF
  clear hRR hcd
  refine wp_region_held_drew (S := (fun w' => (w'.cell? ⟨w.heap.size, 0, none⟩ = some (.slice a L.length cap) ∧ w'.cell? ⟨w.heap.size, 1, none⟩ = some (.int .i64 lim) ∧ w'.cell? ⟨w.heap.size, 2, none⟩ = some (.int .i64 mode) ∧ w'.cell? ⟨w.heap.size, 3, none⟩ = some (.int .i64 A) ∧ w'.cell? ⟨w.heap.size, 4, none⟩ = some (.int .i64 B') ∧ w'.cell? ⟨w.heap.size, 5, none⟩ = some (.int .i64 C) ∧ w'.cell? ⟨w.heap.size, 6, none⟩ = some (.int .i64 D) ∧ w'.cell? ⟨w.heap.size, 7, none⟩ = some (.int .i64 coast) ∧ w'.cell? ⟨w.heap.size, 8, none⟩ = some (.int .i64 fr) ∧ w'.cell? ⟨w.heap.size, 9, none⟩ = some (.int .i64 x1) ∧ w'.cell? ⟨w.heap.size, 10, none⟩ = some (.int .i64 x2) ∧ w'.cell? ⟨w.heap.size, 11, none⟩ = some (.int .i64 x3) ∧ w'.cell? ⟨w.heap.size, 12, none⟩ = some (.int .i64 x4)) ∧ w'.cell? ⟨gb, 4, none⟩ = some (.int .i64 gc) ∧ w'.cell? ⟨xb, 4, none⟩ = some (.int .i64 xk))) (by kernel_rfl) (yy HKS W4 (Below.refl _ _)) (fun hHeld => ?_)
  refine ac 0 rfl ?_
  try simp only [Act.put, ah, ai, aj]
  refine ac 1 rfl ?_
  try simp only [Act.put, ah, ai, aj]
  refine ac 2 rfl ?_
  try simp only [Act.put, ah, ai, aj]
  refine ac 3 rfl ?_
  try simp only [Act.put, ah, ai, aj]
  refine ac 4 rfl ?_
  try simp only [Act.put, ah, ai, aj]
  have HV : Hid (Below W4.heap.size W4 W4.drew) := yz (Below.refl W4.heap.size W4).drew
  obtain ⟨YY, HYY⟩ : ∃ YY, YY = W4.drew := ⟨_, rfl⟩
  rw [← HYY] at HV hHeld ⊢
  clear HYY
  refine ag 5 7 rfl (fun K hK => ?_) rfl fun K hK => ?_
  ·skip
   go_simp
   have HN : Hid (Blk (YY.alloc (.cells #[.int .i64 gc, .int .i64 xk] 2)) YY.heap.size [.int .i64 gc, .int .i64 xk] 2) := yz (au YY [.int .i64 gc, .int .i64 xk] 2)
   have hy := an YY (.cells #[.int .i64 gc, .int .i64 xk] 2)
   replace HV := yz (ak (yy HV) hy)
   clear hy
   generalize YY.alloc (.cells #[.int .i64 gc, .int .i64 xk] 2) = Y0 at *
   generalize YY.heap.size = nb at *
   refine hK.out _ _ (yy HKS _ (yy HV)) (fun hH1 => ?_)
   clear hK K hHeld
   refine ag 6 7 rfl (fun K hK => ?_) rfl fun K hK => ?_
   ·skip
    go_simp
    refine (cF nb Y0 (yy HN)).mono ?_
    rintro e Y1 ⟨rfl, hx⟩
    replace HV := yz (ak (yy HV) hx)
    clear hx HN
    refine hK.out _ _ (yy HKS _ (yy HV)) (fun hH2 => ?_)
    clear hK K hH1
    refine af 7 rfl fun K hK => ?_
    go_simp
    have HWD : Hid (cy (Y1.alloc (.cells #[.string ⟨#[111, 107]⟩] 9)) Y1.heap.size [cf]) := yz bz
    have hy := an Y1 (.cells #[.string ⟨#[111, 107]⟩] 9)
    replace HV := yz (ak (yy HV) hy)
    clear hy
    generalize Y1.alloc (.cells #[.string ⟨#[111, 107]⟩] 9) = Y2 at *
    generalize Y1.heap.size = ob at *
    refine hK.out _ _ (yy HKS _ (yy HV)) (fun hH3 => ?_)
    clear hK K hH2
    refine af 8 rfl fun K hK => ?_
    go_simp
    refine (dH a L.length cap lim mode A B' C D coast fr x1 x2 x3 x4 (kk : Int) (some ⟨ob, 0, none⟩) 1 1 Y2 (by omega)).mono ?_
    rintro e Y3 ⟨rfl, hx⟩
    have HV6 := yz (ak (yy HV) hx)
    have HA : Hid (Ans Y3 B (⟨L, lim, mode, A, B', C, D, coast, fr⟩, (u1, u2, u3, u4)) R (.returned (.iface 178 (.agg #[.int .i64 (kk : Int)])))) := yz (.inl ⟨kk, hk0, hk1, rfl, yy HRR⟩)
    clear hx
    refine hK.out _ _ (yy HKS _ (yy HV6)) (fun hHx => ?_)
    clear hK K hH3
    refine af 9 rfl fun K hK => ?_
    go_simp
    refine hK.out _ _ (yy HKS _ (yy HV6)) (fun hHy => ?_)
    clear hK K hHx
    refine wpAnyH_done (by kernel_rfl) ?_ _
    clear hHy
    go_wp2_with fail
    go_ret
    exact ⟨yy HA, ak (yy HB4) (yy HV6)⟩
   ·skip
    go_simp
    have HWD : Hid (cy (Y0.alloc (.cells #[.string ⟨#[111, 107]⟩] 9)) Y0.heap.size [cf]) := yz bz
    have hy := an Y0 (.cells #[.string ⟨#[111, 107]⟩] 9)
    replace HV := yz (ak (yy HV) hy)
    replace HN := yz ((yy HN).kept hy)
    clear hy
    generalize Y0.alloc (.cells #[.string ⟨#[111, 107]⟩] 9) = Y1 at *
    generalize Y0.heap.size = ob at *
    refine hK.out _ _ (yy HKS _ (yy HV)) (fun hH4 => ?_)
    clear hK K hH1
    refine af 6 rfl fun K hK => ?_
    go_simp
    refine (cF nb Y1 (yy HN)).mono ?_
    rintro e Y2 ⟨rfl, hx⟩
    replace HV := yz (ak (yy HV) hx)
    replace HWD := yz ((yy HWD).kept hx)
    clear hx HN
    refine hK.out _ _ (yy HKS _ (yy HV)) (fun hH5 => ?_)
    clear hK K hH4
    refine af 8 rfl fun K hK => ?_
    go_simp
    refine (dH a L.length cap lim mode A B' C D coast fr x1 x2 x3 x4 (kk : Int) (some ⟨ob, 0, none⟩) 1 1 Y2 (by omega)).mono ?_
    rintro e Y3 ⟨rfl, hx⟩
    have HV6 := yz (ak (yy HV) hx)
    have HA : Hid (Ans Y3 B (⟨L, lim, mode, A, B', C, D, coast, fr⟩, (u1, u2, u3, u4)) R (.returned (.iface 178 (.agg #[.int .i64 (kk : Int)])))) := yz (.inl ⟨kk, hk0, hk1, rfl, yy HRR⟩)
    clear hx
    refine hK.out _ _ (yy HKS _ (yy HV6)) (fun hHx => ?_)
    clear hK K hH5
    refine af 9 rfl fun K hK => ?_
    go_simp
    refine hK.out _ _ (yy HKS _ (yy HV6)) (fun hHy => ?_)
    clear hK K hHx
    refine wpAnyH_done (by kernel_rfl) ?_ _
    clear hHy
    go_wp2_with fail
    go_ret
    exact ⟨yy HA, ak (yy HB4) (yy HV6)⟩
  ·skip
   go_simp
   have HWD : Hid (cy (YY.alloc (.cells #[.string ⟨#[111, 107]⟩] 9)) YY.heap.size [cf]) := yz bz
   have hy := an YY (.cells #[.string ⟨#[111, 107]⟩] 9)
   replace HV := yz (ak (yy HV) hy)
   clear hy
   generalize YY.alloc (.cells #[.string ⟨#[111, 107]⟩] 9) = Y0 at *
   generalize YY.heap.size = ob at *
   refine hK.out _ _ (yy HKS _ (yy HV)) (fun hH6 => ?_)
   clear hK K hHeld
   refine af 5 rfl fun K hK => ?_
   go_simp
   have HN : Hid (Blk (Y0.alloc (.cells #[.int .i64 gc, .int .i64 xk] 2)) Y0.heap.size [.int .i64 gc, .int .i64 xk] 2) := yz (au Y0 [.int .i64 gc, .int .i64 xk] 2)
   have hy := an Y0 (.cells #[.int .i64 gc, .int .i64 xk] 2)
   replace HV := yz (ak (yy HV) hy)
   replace HWD := yz ((yy HWD).kept hy)
   clear hy
   generalize Y0.alloc (.cells #[.int .i64 gc, .int .i64 xk] 2) = Y1 at *
   generalize Y0.heap.size = nb at *
   refine hK.out _ _ (yy HKS _ (yy HV)) (fun hH7 => ?_)
   clear hK K hH6
   refine af 6 rfl fun K hK => ?_
   go_simp
   refine (cF nb Y1 (yy HN)).mono ?_
   rintro e Y2 ⟨rfl, hx⟩
   replace HV := yz (ak (yy HV) hx)
   replace HWD := yz ((yy HWD).kept hx)
   clear hx HN
   refine hK.out _ _ (yy HKS _ (yy HV)) (fun hH8 => ?_)
   clear hK K hH7
   refine af 8 rfl fun K hK => ?_
   go_simp
   refine (dH a L.length cap lim mode A B' C D coast fr x1 x2 x3 x4 (kk : Int) (some ⟨ob, 0, none⟩) 1 1 Y2 (by omega)).mono ?_
   rintro e Y3 ⟨rfl, hx⟩
   have HV6 := yz (ak (yy HV) hx)
   have HA : Hid (Ans Y3 B (⟨L, lim, mode, A, B', C, D, coast, fr⟩, (u1, u2, u3, u4)) R (.returned (.iface 178 (.agg #[.int .i64 (kk : Int)])))) := yz (.inl ⟨kk, hk0, hk1, rfl, yy HRR⟩)
   clear hx
   refine hK.out _ _ (yy HKS _ (yy HV6)) (fun hHx => ?_)
   clear hK K hH8
   refine af 9 rfl fun K hK => ?_
   go_simp
   refine hK.out _ _ (yy HKS _ (yy HV6)) (fun hHy => ?_)
   clear hK K hHx
   refine wpAnyH_done (by kernel_rfl) ?_ _
   clear hHy
   go_wp2_with fail
   go_ret
   exact ⟨yy HA, ak (yy HB4) (yy HV6)⟩
end
end Go.Proofs.YtdchjcadhlkpfaaGreatDoor
