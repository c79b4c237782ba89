/- Several texts in one: FmA. -/
import Derived.Test.YtgiodlllokdcdaaGreatDoorQFnModeOwn42
import Derived.Test.YtgiodlllokdcdaaGreatDoorQFnModeOwn30
import Derived.Test.YtgiodlllokdcdaaGreatDoorQFnModeOwn24
import Derived.Test.YtgiodlllokdcdaaGreatDoorQFnModeOwn40
import Derived.Test.YtgiodlllokdcdaaGreatDoorQFnModeOwn28
import Derived.Test.YtgiodlllokdcdaaGreatDoorQFnModeOwn25
import Derived.Test.YtgiodlllokdcdaaGreatDoorQFnModeOwn38
import Derived.Test.YtgiodlllokdcdaaGreatDoorQFnModeOwn37
import Derived.Test.YtgiodlllokdcdaaGreatDoorQFnModeOwn5
import Derived.Test.YtgiodlllokdcdaaGreatDoorQFnModeOwn1
namespace Go.Proofs.YtgiodlllokdcdaaGreatDoor
set_option linter.unusedVariables false
set_option linter.unusedSimpArgs false
set_option maxRecDepth 100000
set_option maxHeartbeats 8000000
section
open Go.RowKit Go.Sort
structure vf (w wr : World) (kb : Nat) (u kt : Tk) (i : Nat) (ka : Option Addr) (kc : Nat) : Prop where
 lim : kt.lim = u.lim
 st : (kp u kt i ∧ (i : Int) ≤ u.lim) ∨ u.lim < (i : Int)
 il : (i : Int) ≤ u.lim + 1
 len : kt.L.length ≤ 400
 blk : Blk wr kb [.slice ka kt.L.length kc, .int .i64 kt.lim, .int .i64 kt.mode, .int .i64 kt.A, .int .i64 kt.B, .int .i64 kt.C, .int .i64 kt.D, .int .i64 kt.coast, .int .i64 kt.fr] 27
 cop : aq wr w.heap.size kt.L ka kc
 bel : Below w.heap.size w wr
theorem uB (ca da : Option Addr) (len cc len2 dc : Nat) (p : Addr) (w : World) (hl : len ≤ 1048576) (hl2 : len2 ≤ 1048576) (hR : Row w ca len w.heap.size) (hR2 : Row w da len2 w.heap.size) (hE : aY p w) :
  Calls Tryz.prog 3 #[.slice ca len cc, .slice da len2 dc] w fun e w' => e = .returned (.bool true) ∧ Below w.heap.size w w' := by
 have h1 : ¬ (1048576 : Int) < (len : Int) := by omega
 have h2 : ¬ (1048576 : Int) < (len2 : Int) := by omega
 have hmx : maxLen ≤ 9223372036854775807 := by decide +kernel
 have cD := yz (oo ca len cc w hl hR)
 have HR := yz hR
 have HR2 := yz hR2
 have HE := yz hE
 have HE0 := yz hE
 clear hR hR2 hE
 go_enter Tryz.func3, Tryz.ntmps3
 go_wp2_with fail
 refine (yy cD).mono ?_
 rintro e W1 ⟨t, a, cap, S, sa, sc, rfl, hlen, hsl, hC1, hP1, hB1⟩
 replace HE := yz ((yy HE).kept hB1)
 have HC := yz hC1
 have HP := yz hP1
 have HB := yz hB1
 clear hC1 hP1 hB1 cD h1 h2
 have hy := an W1 (.cells #[.slice a t.L.length cap, .int .i64 t.lim, .int .i64 t.mode, .int .i64 t.A, .int .i64 t.B, .int .i64 t.C, .int .i64 t.D, .int .i64 t.coast, .int .i64 t.fr] 27)
 have HT := yz (aD W1 [.slice a t.L.length cap, .int .i64 t.lim, .int .i64 t.mode, .int .i64 t.A, .int .i64 t.B, .int .i64 t.C, .int .i64 t.D, .int .i64 t.coast, .int .i64 t.fr] 27)
 replace HE := yz ((yy HE).kept hy)
 replace HC : Hid (aq _ w.heap.size t.L a cap) := yz ((yy HC).kept hy)
 replace HP := yz (bA (yy HP) hy)
 replace HB := yz (aj (yy HB) hy)
 clear hy
 go_upto_region 4 with fail
 generalize W1.alloc (.cells #[.slice a t.L.length cap, .int .i64 t.lim, .int .i64 t.mode, .int .i64 t.A, .int .i64 t.B, .int .i64 t.C, .int .i64 t.D, .int .i64 t.coast, .int .i64 t.fr] 27) = W2 at *
 have hw2 : w.heap.size ≤ W2.heap.size := (yy HB).size
 have hdd := eL (yy HP)
 have cL := yz (jq t.L S t.lim t.mode t.A t.B t.C t.D t.coast t.fr a cap sa sc p W2 (by omega) (by omega) (yy HC).stars hdd.1 (fun x e => (bf (yy HC) x e).2) (fun x e => (bf (yy HP) x e).2) (yy HC).capMax.1 (by have := (yy HC).capMax.2; omega) hdd.2.1 (by omega) (yy HE))
 obtain ⟨u, HU0⟩ : ∃ u, u = bd ⟨t.L, t.lim, t.mode, t.A, t.B, t.C, t.D, t.coast, t.fr⟩ S := ⟨_, rfl⟩
 obtain ⟨code, HCO⟩ : ∃ u, u = dP ⟨t.L, t.lim, t.mode, t.A, t.B, t.C, t.D, t.coast, t.fr⟩ S := ⟨_, rfl⟩
 rw [← HU0, ← HCO] at cL
 have hlu : u.L.length ≤ 400 := by rw [HU0]; exact Nat.le_trans (sD _ S) hlen
 replace HU0 := yz HU0
 replace HCO := yz HCO
 clear hdd
 obtain ⟨p0, p1, p2, p3, p4, p5, p6, p7, p8⟩ : W2.cell? ⟨W1.heap.size, 0, none⟩ = some (.slice a t.L.length cap) ∧ W2.cell? ⟨W1.heap.size, 1, none⟩ = some (.int .i64 t.lim) ∧ W2.cell? ⟨W1.heap.size, 2, none⟩ = some (.int .i64 t.mode) ∧ W2.cell? ⟨W1.heap.size, 3, none⟩ = some (.int .i64 t.A) ∧ W2.cell? ⟨W1.heap.size, 4, none⟩ = some (.int .i64 t.B) ∧ W2.cell? ⟨W1.heap.size, 5, none⟩ = some (.int .i64 t.C) ∧ W2.cell? ⟨W1.heap.size, 6, none⟩ = some (.int .i64 t.D) ∧ W2.cell? ⟨W1.heap.size, 7, none⟩ = some (.int .i64 t.coast) ∧ W2.cell? ⟨W1.heap.size, 8, none⟩ = some (.int .i64 t.fr) := ⟨(yy HT).cell 0 _ rfl, (yy HT).cell 1 _ rfl, (yy HT).cell 2 _ rfl, (yy HT).cell 3 _ rfl, (yy HT).cell 4 _ rfl, (yy HT).cell 5 _ rfl, (yy HT).cell 6 _ rfl, (yy HT).cell 7 _ rfl, (yy HT).cell 8 _ rfl⟩
 go_wp2_with fail
 refine (yy cL).mono ?_
 rintro e W3 ⟨⟨a1, cap1, rfl, hC3⟩, hx⟩
 clear p0 p1 p2 p3 p4 p5 p6 p7 p8 cL
 replace HE := yz ((yy HE).kept hx)
 replace HC : Hid (aq _ w.heap.size t.L a cap) := yz ((yy HC).kept hx)
 replace HP := yz (bA (yy HP) hx)
 replace HB := yz (aj (yy HB) hx)
 replace HT := yz ((yy HT).kept hx)
 have HC1 := yz hC3
 have hz1 := hx.size
 clear hx hC3
 have hy := an W3 (.cells #[.slice a1 u.L.length cap1, .int .i64 u.lim, .int .i64 u.mode, .int .i64 u.A, .int .i64 u.B, .int .i64 u.C, .int .i64 u.D, .int .i64 u.coast, .int .i64 u.fr, .int .i64 code] 32)
 have HX := yz (aD W3 [.slice a1 u.L.length cap1, .int .i64 u.lim, .int .i64 u.mode, .int .i64 u.A, .int .i64 u.B, .int .i64 u.C, .int .i64 u.D, .int .i64 u.coast, .int .i64 u.fr, .int .i64 code] 32)
 replace HE := yz ((yy HE).kept hy)
 replace HC : Hid (aq _ w.heap.size t.L a cap) := yz ((yy HC).kept hy)
 replace HP := yz (bA (yy HP) hy)
 replace HB := yz (aj (yy HB) hy)
 replace HT := yz ((yy HT).kept hy)
 replace HC1 : Hid (aq _ W2.heap.size u.L a1 cap1) := yz ((yy HC1).kept hy)
 clear hy
 go_upto_region 5 with fail
 generalize W3.alloc (.cells #[.slice a1 u.L.length cap1, .int .i64 u.lim, .int .i64 u.mode, .int .i64 u.A, .int .i64 u.B, .int .i64 u.C, .int .i64 u.D, .int .i64 u.coast, .int .i64 u.fr, .int .i64 code] 32) = W4 at *
 generalize W3.heap.size = xb at *
 go_wp2_with fail
 refine (om da len2 dc W4 hl2 ((yy HR2).upL (yy HB).size (yy HB).block)).mono ?_
 rintro e W5 ⟨gt, g1, g2, g3, g4, ga, gcap, rfl, hgl, hGC, hx⟩
 replace HE := yz ((yy HE).kept hx)
 replace HC : Hid (aq _ w.heap.size t.L a cap) := yz ((yy HC).kept hx)
 replace HP := yz (bA (yy HP) hx)
 replace HB := yz (aj (yy HB) hx)
 replace HT := yz ((yy HT).kept hx)
 replace HC1 : Hid (aq _ W2.heap.size u.L a1 cap1) := yz ((yy HC1).kept hx)
 replace HX := yz ((yy HX).kept hx)
 have HCG := yz hGC
 clear hx hGC
 have hy := aM W5 (.cells #[.slice ga gt.L.length gcap, .int .i64 gt.lim, .int .i64 gt.mode, .int .i64 gt.A, .int .i64 gt.B, .int .i64 gt.C, .int .i64 gt.D, .int .i64 gt.coast, .int .i64 gt.fr] 27) (.cells #[.int .i64 g1, .int .i64 g2, .int .i64 g3, .int .i64 g4] 25)
 have HG := yz ((aD W5 [.slice ga gt.L.length gcap, .int .i64 gt.lim, .int .i64 gt.mode, .int .i64 gt.A, .int .i64 gt.B, .int .i64 gt.C, .int .i64 gt.D, .int .i64 gt.coast, .int .i64 gt.fr] 27).alloc (.cells #[.int .i64 g1, .int .i64 g2, .int .i64 g3, .int .i64 g4] 25))
 have HU : Hid (Blk ((W5.alloc (.cells #[.slice ga gt.L.length gcap, .int .i64 gt.lim, .int .i64 gt.mode, .int .i64 gt.A, .int .i64 gt.B, .int .i64 gt.C, .int .i64 gt.D, .int .i64 gt.coast, .int .i64 gt.fr] 27)).alloc (.cells #[.int .i64 g1, .int .i64 g2, .int .i64 g3, .int .i64 g4] 25)) (W5.heap.size + 1) [.int .i64 g1, .int .i64 g2, .int .i64 g3, .int .i64 g4] 25) := yz (by have h := aD (W5.alloc (.cells #[.slice ga gt.L.length gcap, .int .i64 gt.lim, .int .i64 gt.mode, .int .i64 gt.A, .int .i64 gt.B, .int .i64 gt.C, .int .i64 gt.D, .int .i64 gt.coast, .int .i64 gt.fr] 27)) [.int .i64 g1, .int .i64 g2, .int .i64 g3, .int .i64 g4] 25; simpa using h)
 replace HE := yz ((yy HE).kept hy)
 replace HC : Hid (aq _ w.heap.size t.L a cap) := yz ((yy HC).kept hy)
 replace HP := yz (bA (yy HP) hy)
 replace HB := yz (aj (yy HB) hy)
 replace HT := yz ((yy HT).kept hy)
 replace HC1 : Hid (aq _ W2.heap.size u.L a1 cap1) := yz ((yy HC1).kept hy)
 replace HX := yz ((yy HX).kept hy)
 replace HCG : Hid (aq _ W4.heap.size gt.L ga gcap) := yz ((yy HCG).kept hy)
 clear hy
 go_upto_region 6 with fail
 generalize (W5.alloc (.cells #[.slice ga gt.L.length gcap, .int .i64 gt.lim, .int .i64 gt.mode, .int .i64 gt.A, .int .i64 gt.B, .int .i64 gt.C, .int .i64 gt.D, .int .i64 gt.coast, .int .i64 gt.fr] 27)).alloc (.cells #[.int .i64 g1, .int .i64 g2, .int .i64 g3, .int .i64 g4] 25) = W6 at *
 generalize W5.heap.size = gb at *
 go_wp2_with fail
 refine (mJ da len2 dc W6 hl2 ((yy HR2).upL (yy HB).size (yy HB).block)).mono ?_
 rintro e W7 ⟨rt, ra, rcap, rfl, hrl, hRC, hx⟩
 replace HE := yz ((yy HE).kept hx)
 replace HC : Hid (aq _ w.heap.size t.L a cap) := yz ((yy HC).kept hx)
 replace HP := yz (bA (yy HP) hx)
 replace HB := yz (aj (yy HB) hx)
 replace HT := yz ((yy HT).kept hx)
 replace HC1 : Hid (aq _ W2.heap.size u.L a1 cap1) := yz ((yy HC1).kept hx)
 replace HX := yz ((yy HX).kept hx)
 replace HCG : Hid (aq _ W4.heap.size gt.L ga gcap) := yz ((yy HCG).kept hx)
 replace HG := yz ((yy HG).kept hx)
 replace HU := yz ((yy HU).kept hx)
 have HCR := yz hRC
 clear hx hRC HR2
 have hy := an W7 (.cells #[.slice ra rt.L.length rcap, .int .i64 rt.lim, .int .i64 rt.mode, .int .i64 rt.A, .int .i64 rt.B, .int .i64 rt.C, .int .i64 rt.D, .int .i64 rt.coast, .int .i64 rt.fr] 27)
 have HRb := yz (aD W7 [.slice ra rt.L.length rcap, .int .i64 rt.lim, .int .i64 rt.mode, .int .i64 rt.A, .int .i64 rt.B, .int .i64 rt.C, .int .i64 rt.D, .int .i64 rt.coast, .int .i64 rt.fr] 27)
 replace HE := yz ((yy HE).kept hy)
 replace HC : Hid (aq _ w.heap.size t.L a cap) := yz ((yy HC).kept hy)
 replace HP := yz (bA (yy HP) hy)
 replace HB := yz (aj (yy HB) hy)
 replace HT := yz ((yy HT).kept hy)
 replace HC1 : Hid (aq _ W2.heap.size u.L a1 cap1) := yz ((yy HC1).kept hy)
 replace HX := yz ((yy HX).kept hy)
 replace HCG : Hid (aq _ W4.heap.size gt.L ga gcap) := yz ((yy HCG).kept hy)
 replace HG := yz ((yy HG).kept hy)
 replace HU := yz ((yy HU).kept hy)
 replace HCR : Hid (aq _ W6.heap.size rt.L ra rcap) := yz ((yy HCR).kept hy)
 clear hy
 go_upto_region 7 with fail
 generalize W7.alloc (.cells #[.slice ra rt.L.length rcap, .int .i64 rt.lim, .int .i64 rt.mode, .int .i64 rt.A, .int .i64 rt.B, .int .i64 rt.C, .int .i64 rt.D, .int .i64 rt.coast, .int .i64 rt.fr] 27) = W8 at *
 generalize W7.heap.size = rb at *
 go_wp2_with fail
 refine (iR ca len cc W8 hl ((yy HR).upL (yy HB).size (yy HB).block)).mono ?_
 rintro e W9 ⟨L, lim, nb, ncap, rfl, hnl, hNC, hx⟩
 replace HE := yz ((yy HE).kept hx)
 replace HC : Hid (aq _ w.heap.size t.L a cap) := yz ((yy HC).kept hx)
 replace HP := yz (bA (yy HP) hx)
 replace HB := yz (aj (yy HB) hx)
 replace HT := yz ((yy HT).kept hx)
 replace HC1 : Hid (aq _ W2.heap.size u.L a1 cap1) := yz ((yy HC1).kept hx)
 replace HX := yz ((yy HX).kept hx)
 replace HCG : Hid (aq _ W4.heap.size gt.L ga gcap) := yz ((yy HCG).kept hx)
 replace HG := yz ((yy HG).kept hx)
 replace HU := yz ((yy HU).kept hx)
 replace HCR : Hid (aq _ W6.heap.size rt.L ra rcap) := yz ((yy HCR).kept hx)
 replace HRb := yz ((yy HRb).kept hx)
 have HCN := yz hNC
 clear hx hNC HR
 go_upto_region 8 with fail
 have hgq : gcap ≤ 9223372036854775807 := by have := (yy HCG).capMax.2; omega
 have hrq : rcap ≤ 9223372036854775807 := by have := (yy HCR).capMax.2; omega
 have hnq : ncap ≤ 9223372036854775807 := by have := (yy HCN).capMax.2; omega
 have hcq : cap ≤ 9223372036854775807 := by have := (yy HC).capMax.2; omega
 have hsq := (eL (yy HP)).2
 have cS1 := yz (fun (W : World) (hS : aH W a t.L t.L.length) (hD : co W sa S S.length) (hb : ∀ y, a = some y → y.block < W.heap.size) (hB : ∀ y, sa = some y → y.block < W.heap.size) => et t.L S t.lim t.mode t.A t.B t.C t.D t.coast t.fr a cap sa sc W (by omega) (by omega) hS hD hb hB hsq.1 (by omega))
 rw [← yy HU0, ← yy HCO] at cS1
 have cG1 := yz (fun (W : World) (hE : aY p W) (hS : aH W ga gt.L gt.L.length) => oA gt.L gt.lim gt.mode gt.A gt.B gt.C gt.D gt.coast gt.fr g1 g2 g3 g4 ga gcap p W (by omega) (yy HCG).capMax.1 hgq hE hS)
 have cG2 := yz (fun (W : World) (hS : aH W ga gt.L gt.L.length) => jI gt.L gt.lim gt.mode gt.A gt.B gt.C gt.D gt.coast gt.fr g1 g2 g3 g4 ga gcap W (by omega) hS)
 obtain ⟨vG, HVG⟩ : ∃ u, u = ed ⟨gt.L, gt.lim, gt.mode, gt.A, gt.B, gt.C, gt.D, gt.coast, gt.fr⟩ g1 g2 g3 g4 := ⟨_, rfl⟩
 obtain ⟨kG, HKG⟩ : ∃ u, u = fx ⟨gt.L, gt.lim, gt.mode, gt.A, gt.B, gt.C, gt.D, gt.coast, gt.fr⟩ g1 g2 g3 g4 := ⟨_, rfl⟩
 rw [← HVG, ← HKG] at cG1 cG2
 have hlG : vG.L.length ≤ 1048576 := by rw [HVG]; have := pH (t := ⟨gt.L, gt.lim, gt.mode, gt.A, gt.B, gt.C, gt.D, gt.coast, gt.fr⟩) g1 g2 g3 g4 hgl; omega
 have HQG : Hid (kG = 0 → aG ⟨vG.L, vG.lim, vG.mode, vG.A, vG.B, vG.C, vG.D, vG.coast, vG.fr⟩ = true) := yz (fun h => by rw [HKG] at h; have := (qG h).2.2.2; rw [← HVG] at this; exact this)
 have cOG := yz (fun (W : World) (x y : Option Addr) (c d : Nat) (h1 : aH W x vG.L vG.L.length) (h2 : aH W y vG.L vG.L.length) => gp vG.L vG.lim vG.mode vG.A vG.B vG.C vG.D vG.coast vG.fr kG x y c d W hlG h1 h2 (yy HQG))
 clear HVG HKG HQG hlG
 have cR1 := yz (fun (W : World) (hE : aY p W) (hS : aH W ra rt.L rt.L.length) => mM rt.L rt.lim rt.mode rt.A rt.B rt.C rt.D rt.coast rt.fr ra rcap p W (by omega) (yy HCR).capMax.1 hrq hE hS)
 have cR2 := yz (fun (W : World) (hS : aH W ra rt.L rt.L.length) => mW rt.L rt.lim rt.mode rt.A rt.B rt.C rt.D rt.coast rt.fr ra rcap W (by omega) hS)
 obtain ⟨vR, HVR⟩ : ∃ u, u = dZ ⟨rt.L, rt.lim, rt.mode, rt.A, rt.B, rt.C, rt.D, rt.coast, rt.fr⟩ := ⟨_, rfl⟩
 obtain ⟨kR, HKR⟩ : ∃ u, u = eG ⟨rt.L, rt.lim, rt.mode, rt.A, rt.B, rt.C, rt.D, rt.coast, rt.fr⟩ := ⟨_, rfl⟩
 rw [← HVR, ← HKR] at cR1 cR2
 have hlR : vR.L.length ≤ 1048576 := by rw [HVR]; have := qT ⟨rt.L, rt.lim, rt.mode, rt.A, rt.B, rt.C, rt.D, rt.coast, rt.fr⟩; have h2 : (⟨rt.L, rt.lim, rt.mode, rt.A, rt.B, rt.C, rt.D, rt.coast, rt.fr⟩ : Tk).L.length ≤ 400 := hrl; omega
 have HQR : Hid (kR = 0 → aG ⟨vR.L, vR.lim, vR.mode, vR.A, vR.B, vR.C, vR.D, vR.coast, vR.fr⟩ = true) := yz (fun h => by rw [HKR] at h; have := qe h; rw [← HVR] at this; exact this)
 have cOR := yz (fun (W : World) (x y : Option Addr) (c d : Nat) (h1 : aH W x vR.L vR.L.length) (h2 : aH W y vR.L vR.L.length) => gp vR.L vR.lim vR.mode vR.A vR.B vR.C vR.D vR.coast vR.fr kR x y c d W hlR h1 h2 (yy HQR))
 clear HVR HKR HQR hlR
 have cN1 := yz (fun (W : World) (hE : aY p W) (hS : aH W (some ⟨nb, 0, none⟩) L L.length) => pJ L lim nb 0 ncap p W (by omega) (yy HCN).capMax.1 hnq hE hS)
 have cN2 := yz (fun (W : World) (hS : aH W (some ⟨nb, 0, none⟩) L L.length) => gW L lim nb 0 ncap W (by omega) hS)
 obtain ⟨vN, HVN⟩ : ∃ u, u = fi L lim := ⟨_, rfl⟩
 obtain ⟨kN, HKN⟩ : ∃ u, u = gu L lim := ⟨_, rfl⟩
 rw [← HVN, ← HKN] at cN1 cN2
 have hlN : vN.L.length ≤ 1048576 := by rw [HVN]; have := tP L lim; omega
 have HQN : Hid (kN = 0 → aG ⟨vN.L, vN.lim, vN.mode, vN.A, vN.B, vN.C, vN.D, vN.coast, vN.fr⟩ = true) := yz (fun h => by rw [HKN] at h; have := sM h; rw [← HVN] at this; exact this)
 have cON := yz (fun (W : World) (x y : Option Addr) (c d : Nat) (h1 : aH W x vN.L vN.L.length) (h2 : aH W y vN.L vN.L.length) => gp vN.L vN.lim vN.mode vN.A vN.B vN.C vN.D vN.coast vN.fr kN x y c d W hlN h1 h2 (yy HQN))
 clear HVN HKN HQN hlN
 have HQX : Hid (code = 0 → aG ⟨u.L, u.lim, u.mode, u.A, u.B, u.C, u.D, u.coast, u.fr⟩ = true) := yz (fun h => by rw [yy HCO] at h; have := lP h; rw [yy HU0]; exact this)
 have cOX := yz (fun (W : World) (x y : Option Addr) (c d : Nat) (h1 : aH W x u.L u.L.length) (h2 : aH W y u.L u.L.length) => gp u.L u.lim u.mode u.A u.B u.C u.D u.coast u.fr code x y c d W (by omega) h1 h2 (yy HQX))
 have cT1 := yz (fun (W : World) (hS : aH W ra rt.L rt.L.length) (hE : aY p W) => dT rt.L rt.lim rt.mode rt.A rt.B rt.C rt.D rt.coast rt.fr ra rcap p W (by omega) (yy HCR).capMax.1 hrq hS hE)
 have cT2 := yz (fun (W : World) (hS : aH W ra rt.L rt.L.length) => dW rt.L rt.lim rt.mode rt.A rt.B rt.C rt.D rt.coast rt.fr ra rcap W (by omega) hS)
 obtain ⟨tb, HTB⟩ : ∃ u, u = aG ⟨rt.L, rt.lim, rt.mode, rt.A, rt.B, rt.C, rt.D, rt.coast, rt.fr⟩ := ⟨_, rfl⟩
 rw [← HTB] at cT1 cT2
 clear HTB
 have HKS : Hid (∀ w' : World, Below W9.heap.size W9 w' → w'.cell? ⟨xb, 0, none⟩ = some (.slice a1 u.L.length cap1) ∧ w'.cell? ⟨xb, 1, none⟩ = some (.int .i64 u.lim) ∧ w'.cell? ⟨xb, 2, none⟩ = some (.int .i64 u.mode) ∧ w'.cell? ⟨xb, 3, none⟩ = some (.int .i64 u.A) ∧ w'.cell? ⟨xb, 4, none⟩ = some (.int .i64 u.B) ∧ w'.cell? ⟨xb, 5, none⟩ = some (.int .i64 u.C) ∧ w'.cell? ⟨xb, 6, none⟩ = some (.int .i64 u.D) ∧ w'.cell? ⟨xb, 7, none⟩ = some (.int .i64 u.coast) ∧ w'.cell? ⟨xb, 8, none⟩ = some (.int .i64 u.fr) ∧ w'.cell? ⟨xb, 9, none⟩ = some (.int .i64 code) ∧ w'.cell? ⟨W1.heap.size, 0, none⟩ = some (.slice a t.L.length cap) ∧ w'.cell? ⟨W1.heap.size, 1, none⟩ = some (.int .i64 t.lim) ∧ w'.cell? ⟨W1.heap.size, 2, none⟩ = some (.int .i64 t.mode) ∧ w'.cell? ⟨W1.heap.size, 3, none⟩ = some (.int .i64 t.A) ∧ w'.cell? ⟨W1.heap.size, 4, none⟩ = some (.int .i64 t.B) ∧ w'.cell? ⟨W1.heap.size, 5, none⟩ = some (.int .i64 t.C) ∧ w'.cell? ⟨W1.heap.size, 6, none⟩ = some (.int .i64 t.D) ∧ w'.cell? ⟨W1.heap.size, 7, none⟩ = some (.int .i64 t.coast) ∧ w'.cell? ⟨W1.heap.size, 8, none⟩ = some (.int .i64 t.fr) ∧ w'.cell? ⟨gb, 0, none⟩ = some (.slice ga gt.L.length gcap) ∧ w'.cell? ⟨gb, 1, none⟩ = some (.int .i64 gt.lim) ∧ w'.cell? ⟨gb, 2, none⟩ = some (.int .i64 gt.mode) ∧ w'.cell? ⟨gb, 3, none⟩ = some (.int .i64 gt.A) ∧ w'.cell? ⟨gb, 4, none⟩ = some (.int .i64 gt.B) ∧ w'.cell? ⟨gb, 5, none⟩ = some (.int .i64 gt.C) ∧ w'.cell? ⟨gb, 6, none⟩ = some (.int .i64 gt.D) ∧ w'.cell? ⟨gb, 7, none⟩ = some (.int .i64 gt.coast) ∧ w'.cell? ⟨gb, 8, none⟩ = some (.int .i64 gt.fr) ∧ w'.cell? ⟨gb + 1, 0, none⟩ = some (.int .i64 g1) ∧ w'.cell? ⟨gb + 1, 1, none⟩ = some (.int .i64 g2) ∧ w'.cell? ⟨gb + 1, 2, none⟩ = some (.int .i64 g3) ∧ w'.cell? ⟨gb + 1, 3, none⟩ = some (.int .i64 g4) ∧ w'.cell? ⟨rb, 0, none⟩ = some (.slice ra rt.L.length rcap) ∧ w'.cell? ⟨rb, 1, none⟩ = some (.int .i64 rt.lim) ∧ w'.cell? ⟨rb, 2, none⟩ = some (.int .i64 rt.mode) ∧ w'.cell? ⟨rb, 3, none⟩ = some (.int .i64 rt.A) ∧ w'.cell? ⟨rb, 4, none⟩ = some (.int .i64 rt.B) ∧ w'.cell? ⟨rb, 5, none⟩ = some (.int .i64 rt.C) ∧ w'.cell? ⟨rb, 6, none⟩ = some (.int .i64 rt.D) ∧ w'.cell? ⟨rb, 7, none⟩ = some (.int .i64 rt.coast) ∧ w'.cell? ⟨rb, 8, none⟩ = some (.int .i64 rt.fr)) := yz (fun w' h => ⟨((yy HX).kept h).cell 0 _ rfl, ((yy HX).kept h).cell 1 _ rfl, ((yy HX).kept h).cell 2 _ rfl, ((yy HX).kept h).cell 3 _ rfl, ((yy HX).kept h).cell 4 _ rfl, ((yy HX).kept h).cell 5 _ rfl, ((yy HX).kept h).cell 6 _ rfl, ((yy HX).kept h).cell 7 _ rfl, ((yy HX).kept h).cell 8 _ rfl, ((yy HX).kept h).cell 9 _ rfl, ((yy HT).kept h).cell 0 _ rfl, ((yy HT).kept h).cell 1 _ rfl, ((yy HT).kept h).cell 2 _ rfl, ((yy HT).kept h).cell 3 _ rfl, ((yy HT).kept h).cell 4 _ rfl, ((yy HT).kept h).cell 5 _ rfl, ((yy HT).kept h).cell 6 _ rfl, ((yy HT).kept h).cell 7 _ rfl, ((yy HT).kept h).cell 8 _ rfl, ((yy HG).kept h).cell 0 _ rfl, ((yy HG).kept h).cell 1 _ rfl, ((yy HG).kept h).cell 2 _ rfl, ((yy HG).kept h).cell 3 _ rfl, ((yy HG).kept h).cell 4 _ rfl, ((yy HG).kept h).cell 5 _ rfl, ((yy HG).kept h).cell 6 _ rfl, ((yy HG).kept h).cell 7 _ rfl, ((yy HG).kept h).cell 8 _ rfl, ((yy HU).kept h).cell 0 _ rfl, ((yy HU).kept h).cell 1 _ rfl, ((yy HU).kept h).cell 2 _ rfl, ((yy HU).kept h).cell 3 _ rfl, ((yy HRb).kept h).cell 0 _ rfl, ((yy HRb).kept h).cell 1 _ rfl, ((yy HRb).kept h).cell 2 _ rfl, ((yy HRb).kept h).cell 3 _ rfl, ((yy HRb).kept h).cell 4 _ rfl, ((yy HRb).kept h).cell 5 _ rfl, ((yy HRb).kept h).cell 6 _ rfl, ((yy HRb).kept h).cell 7 _ rfl, ((yy HRb).kept h).cell 8 _ rfl⟩)
 go_cut [88] (fun v wx => ∃ wv : World, wv = wx ∧ v = .bool false ∧ Hid (Below W9.heap.size W9 wx))
 case first =>
  have HV : Hid (Below W9.heap.size W9 W9.drew) := yz (Below.refl W9.heap.size W9).drew
  refine wp_region_held_drew (S := (fun w' => w'.cell? ⟨xb, 0, none⟩ = some (.slice a1 u.L.length cap1) ∧ w'.cell? ⟨xb, 1, none⟩ = some (.int .i64 u.lim) ∧ w'.cell? ⟨xb, 2, none⟩ = some (.int .i64 u.mode) ∧ w'.cell? ⟨xb, 3, none⟩ = some (.int .i64 u.A) ∧ w'.cell? ⟨xb, 4, none⟩ = some (.int .i64 u.B) ∧ w'.cell? ⟨xb, 5, none⟩ = some (.int .i64 u.C) ∧ w'.cell? ⟨xb, 6, none⟩ = some (.int .i64 u.D) ∧ w'.cell? ⟨xb, 7, none⟩ = some (.int .i64 u.coast) ∧ w'.cell? ⟨xb, 8, none⟩ = some (.int .i64 u.fr) ∧ w'.cell? ⟨xb, 9, none⟩ = some (.int .i64 code) ∧ w'.cell? ⟨W1.heap.size, 0, none⟩ = some (.slice a t.L.length cap) ∧ w'.cell? ⟨W1.heap.size, 1, none⟩ = some (.int .i64 t.lim) ∧ w'.cell? ⟨W1.heap.size, 2, none⟩ = some (.int .i64 t.mode) ∧ w'.cell? ⟨W1.heap.size, 3, none⟩ = some (.int .i64 t.A) ∧ w'.cell? ⟨W1.heap.size, 4, none⟩ = some (.int .i64 t.B) ∧ w'.cell? ⟨W1.heap.size, 5, none⟩ = some (.int .i64 t.C) ∧ w'.cell? ⟨W1.heap.size, 6, none⟩ = some (.int .i64 t.D) ∧ w'.cell? ⟨W1.heap.size, 7, none⟩ = some (.int .i64 t.coast) ∧ w'.cell? ⟨W1.heap.size, 8, none⟩ = some (.int .i64 t.fr) ∧ w'.cell? ⟨gb, 0, none⟩ = some (.slice ga gt.L.length gcap) ∧ w'.cell? ⟨gb, 1, none⟩ = some (.int .i64 gt.lim) ∧ w'.cell? ⟨gb, 2, none⟩ = some (.int .i64 gt.mode) ∧ w'.cell? ⟨gb, 3, none⟩ = some (.int .i64 gt.A) ∧ w'.cell? ⟨gb, 4, none⟩ = some (.int .i64 gt.B) ∧ w'.cell? ⟨gb, 5, none⟩ = some (.int .i64 gt.C) ∧ w'.cell? ⟨gb, 6, none⟩ = some (.int .i64 gt.D) ∧ w'.cell? ⟨gb, 7, none⟩ = some (.int .i64 gt.coast) ∧ w'.cell? ⟨gb, 8, none⟩ = some (.int .i64 gt.fr) ∧ w'.cell? ⟨gb + 1, 0, none⟩ = some (.int .i64 g1) ∧ w'.cell? ⟨gb + 1, 1, none⟩ = some (.int .i64 g2) ∧ w'.cell? ⟨gb + 1, 2, none⟩ = some (.int .i64 g3) ∧ w'.cell? ⟨gb + 1, 3, none⟩ = some (.int .i64 g4) ∧ w'.cell? ⟨rb, 0, none⟩ = some (.slice ra rt.L.length rcap) ∧ w'.cell? ⟨rb, 1, none⟩ = some (.int .i64 rt.lim) ∧ w'.cell? ⟨rb, 2, none⟩ = some (.int .i64 rt.mode) ∧ w'.cell? ⟨rb, 3, none⟩ = some (.int .i64 rt.A) ∧ w'.cell? ⟨rb, 4, none⟩ = some (.int .i64 rt.B) ∧ w'.cell? ⟨rb, 5, none⟩ = some (.int .i64 rt.C) ∧ w'.cell? ⟨rb, 6, none⟩ = some (.int .i64 rt.D) ∧ w'.cell? ⟨rb, 7, none⟩ = some (.int .i64 rt.coast) ∧ w'.cell? ⟨rb, 8, none⟩ = some (.int .i64 rt.fr))) (by kernel_rfl) (yy HKS W9 (Below.refl _ _)) (fun hHeld => ?_)
  refine wpAnyH_take (i := 0) (oi := ({ dst := some 48, op := Op.load 32 (Operand.tmp 7), type := 32, pos := "laws.go:392", after := #[], guard := none } : Oper)) (v := ?_) rfl (by kernel_rfl) (by kernel_rfl) (by kernel_rfl) (fun _ _ _ h => h) (Or.inl ⟨by kernel_rfl, ?_⟩) (by assumption) ?_
  rotate_left
  ·intro W0 hSw; (try dsimp only at hSw); go_simp <;> with_reducible rfl
  try simp only [Act.put, ag, ah, ai]
  refine wpAnyH_take (i := 1) (oi := ({ dst := some 49, op := Op.load 27 (Operand.tmp 5), type := 27, pos := "laws.go:392", after := #[], guard := none } : Oper)) (v := ?_) rfl (by kernel_rfl) (by kernel_rfl) (by kernel_rfl) (fun _ _ _ h => h) (Or.inl ⟨by kernel_rfl, ?_⟩) (by assumption) ?_
  rotate_left
  ·intro W0 hSw; (try dsimp only at hSw); go_simp <;> with_reducible rfl
  try simp only [Act.put, ag, ah, ai]
  refine wpAnyH_take (i := 2) (oi := ({ dst := some 50, op := Op.move (Operand.tmp 6), type := 28, pos := "laws.go:392", after := #[], guard := none } : Oper)) (v := ?_) rfl (by kernel_rfl) (by kernel_rfl) (by kernel_rfl) (fun _ _ _ h => h) (Or.inl ⟨by kernel_rfl, ?_⟩) (by assumption) ?_
  rotate_left
  ·intro W0 hSw; (try dsimp only at hSw); go_simp <;> with_reducible rfl
  try simp only [Act.put, ag, ah, ai]
  refine wpAnyH_ready (rs := [3]) (by kernel_rfl) (by simp) ?_
  refine (AllReadyH.cons rfl (fun K hK => ?_) AllReadyH.nil)
  go_simp
  refine (yy cS1 W9.drew ((yy HC).kept (yy HV)).stars (eL (bA (yy HP) (yy HV))).1 (fun x e => (bf ((yy HC).kept (yy HV)) x e).2) (fun x e => (bf (bA (yy HP) (yy HV)) x e).2)).mono ?_
  rintro e V1 ⟨⟨y1, d1, rfl, hq⟩, hx⟩
  replace HV := yz (aj (yy HV) hx)
  have HA := yz hq
  clear hx hq
  refine hK.out _ _ ?_ (fun hHeld1 => ?_)
  ·exact yy HKS _ (yy HV)
  clear hK K
  refine wpAnyH_ready (rs := [4]) (by kernel_rfl) (by simp) ?_
  refine (AllReadyH.cons rfl (fun K hK => ?_) AllReadyH.nil)
  go_simp
  refine (yy cOX V1 a1 y1 cap1 d1 ((yy HC1).kept (yy HV)).stars (yy HA).stars).mono ?_
  rintro e V2 ⟨rfl, hx⟩
  replace HV := yz (aj (yy HV) hx)
  clear hx HA
  refine hK.out _ _ ?_ (fun hHeld2 => ?_)
  ·exact yy HKS _ (yy HV)
  clear hK K
  refine wpAnyH_take (i := 5) (oi := ({ dst := some 53, op := Op.unOp UnOp.not 4 (Operand.tmp 52), type := 4, pos := "laws.go:392", after := #[{ on := 4, ground := Ground.data }], guard := none } : Oper)) (v := (.bool false)) rfl (by kernel_rfl) (by kernel_rfl) (by kernel_rfl) (fun _ _ _ h => h) (Or.inl ⟨by kernel_rfl, ?_⟩) (by assumption) ?_
  ·intro W0 hSw; (try dsimp only at hSw); go_simp <;> simp
  try simp only [Act.put, ag, ah, ai]
  refine wpAnyH_take (i := 6) (oi := ({ dst := some 54, op := Op.move (Operand.tmp 53), type := 4, pos := "laws.go:392", after := #[{ on := 5, ground := Ground.data }, { on := 4, ground := Ground.chain }], guard := none } : Oper)) (v := ?_) rfl (by kernel_rfl) (by kernel_rfl) (by kernel_rfl) (fun _ _ _ h => h) (Or.inl ⟨by kernel_rfl, ?_⟩) (by assumption) ?_
  rotate_left
  ·intro W0 hSw; (try dsimp only at hSw); go_simp <;> with_reducible rfl
  try simp only [Act.put, ag, ah, ai]
  refine wpAnyH_take (i := 7) (oi := ({ dst := some 55, op := Op.load 27 (Operand.tmp 8), type := 27, pos := "laws.go:392", after := #[{ on := 6, ground := Ground.guard }], guard := some (6, false) } : Oper)) (v := ?_) rfl (by kernel_rfl) (by kernel_rfl) (by kernel_rfl) (fun _ _ _ h => h) (Or.inl ⟨by kernel_rfl, ?_⟩) (by assumption) ?_
  rotate_left
  ·intro W0 hSw; (try dsimp only at hSw); go_simp <;> with_reducible rfl
  try simp only [Act.put, ag, ah, ai]
  refine wpAnyH_take (i := 8) (oi := ({ dst := some 56, op := Op.load 25 (Operand.tmp 9), type := 25, pos := "laws.go:392", after := #[{ on := 6, ground := Ground.guard }], guard := some (6, false) } : Oper)) (v := ?_) rfl (by kernel_rfl) (by kernel_rfl) (by kernel_rfl) (fun _ _ _ h => h) (Or.inl ⟨by kernel_rfl, ?_⟩) (by assumption) ?_
  rotate_left
  ·intro W0 hSw; (try dsimp only at hSw); go_simp <;> with_reducible rfl
  try simp only [Act.put, ag, ah, ai]
  refine wpAnyH_take (i := 10) (oi := ({ dst := some 58, op := Op.load 27 (Operand.tmp 8), type := 27, pos := "laws.go:392", after := #[{ on := 6, ground := Ground.guard }], guard := some (6, false) } : Oper)) (v := ?_) rfl (by kernel_rfl) (by kernel_rfl) (by kernel_rfl) (fun _ _ _ h => h) (Or.inl ⟨by kernel_rfl, ?_⟩) (by assumption) ?_
  rotate_left
  ·intro W0 hSw; (try dsimp only at hSw); go_simp <;> with_reducible rfl
  try simp only [Act.put, ag, ah, ai]
  refine wpAnyH_take (i := 11) (oi := ({ dst := some 59, op := Op.load 25 (Operand.tmp 9), type := 25, pos := "laws.go:392", after := #[{ on := 6, ground := Ground.guard }], guard := some (6, false) } : Oper)) (v := ?_) rfl (by kernel_rfl) (by kernel_rfl) (by kernel_rfl) (fun _ _ _ h => h) (Or.inl ⟨by kernel_rfl, ?_⟩) (by assumption) ?_
  rotate_left
  ·intro W0 hSw; (try dsimp only at hSw); go_simp <;> with_reducible rfl
  try simp only [Act.put, ag, ah, ai]
  refine wpAnyH_ready (rs := [9]) (by kernel_rfl) (by simp) ?_
  refine (AllReadyH.cons rfl (fun K hK => ?_) AllReadyH.nil)
  go_simp
  refine (yy cG1 V2 ((yy HE).kept (yy HV)) ((yy HCG).kept (yy HV)).stars).mono ?_
  rintro e V3 ⟨⟨y1, d1, rfl, hq⟩, hx⟩
  replace HV := yz (aj (yy HV) hx)
  have HA := yz hq
  clear hx hq
  refine hK.out _ _ ?_ (fun hHeld3 => ?_)
  ·exact yy HKS _ (yy HV)
  clear hK K
  refine wpAnyH_ready (rs := [12]) (by kernel_rfl) (by simp) ?_
  refine (AllReadyH.cons rfl (fun K hK => ?_) AllReadyH.nil)
  go_simp
  refine (yy cG2 V3 ((yy HCG).kept (yy HV)).stars).mono ?_
  rintro e V4 ⟨⟨y2, d2, rfl, hq⟩, hx⟩
  replace HV := yz (aj (yy HV) hx)
  replace HA := yz ((yy HA).kept hx)
  have HA2 := yz hq
  clear hx hq
  refine hK.out _ _ ?_ (fun hHeld4 => ?_)
  ·exact yy HKS _ (yy HV)
  clear hK K
  refine wpAnyH_ready (rs := [13]) (by kernel_rfl) (by simp) ?_
  refine (AllReadyH.cons rfl (fun K hK => ?_) AllReadyH.nil)
  go_simp
  refine (yy cOG V4 y1 y2 d1 d2 (yy HA).stars (yy HA2).stars).mono ?_
  rintro e V5 ⟨rfl, hx⟩
  replace HV := yz (aj (yy HV) hx)
  clear hx HA HA2
  refine hK.out _ _ ?_ (fun hHeld5 => ?_)
  ·exact yy HKS _ (yy HV)
  clear hK K
  refine wpAnyH_take (i := 14) (oi := ({ dst := some 62, op := Op.unOp UnOp.not 4 (Operand.tmp 61), type := 4, pos := "laws.go:392", after := #[{ on := 13, ground := Ground.data }, { on := 6, ground := Ground.guard }], guard := some (6, false) } : Oper)) (v := (.bool false)) rfl (by kernel_rfl) (by kernel_rfl) (by kernel_rfl) (fun _ _ _ h => h) (Or.inl ⟨by kernel_rfl, ?_⟩) (by assumption) ?_
  ·intro W0 hSw; (try dsimp only at hSw); go_simp <;> simp
  try simp only [Act.put, ag, ah, ai]
  refine wpAnyH_take (i := 15) (oi := ({ dst := some 63, op := Op.pick (Operand.tmp 54) (Operand.const (Value.bool true)) (Operand.tmp 62), type := 4, pos := "laws.go:392", after := #[{ on := 6, ground := Ground.data }, { on := 14, ground := Ground.data }], guard := none } : Oper)) (v := (.bool false)) rfl (by kernel_rfl) (by kernel_rfl) (by kernel_rfl) (fun _ _ _ h => h) (Or.inl ⟨by kernel_rfl, ?_⟩) (by assumption) ?_
  ·intro W0 hSw; (try dsimp only at hSw); go_simp <;> simp
  try simp only [Act.put, ag, ah, ai]
  refine wpAnyH_take (i := 16) (oi := ({ dst := some 64, op := Op.move (Operand.tmp 63), type := 4, pos := "laws.go:392", after := #[{ on := 15, ground := Ground.data }, { on := 13, ground := Ground.chain }], guard := none } : Oper)) (v := ?_) rfl (by kernel_rfl) (by kernel_rfl) (by kernel_rfl) (fun _ _ _ h => h) (Or.inl ⟨by kernel_rfl, ?_⟩) (by assumption) ?_
  rotate_left
  ·intro W0 hSw; (try dsimp only at hSw); go_simp <;> with_reducible rfl
  try simp only [Act.put, ag, ah, ai]
  refine wpAnyH_take (i := 17) (oi := ({ dst := some 65, op := Op.load 27 (Operand.tmp 10), type := 27, pos := "laws.go:392", after := #[{ on := 16, ground := Ground.guard }], guard := some (16, false) } : Oper)) (v := ?_) rfl (by kernel_rfl) (by kernel_rfl) (by kernel_rfl) (fun _ _ _ h => h) (Or.inl ⟨by kernel_rfl, ?_⟩) (by assumption) ?_
  rotate_left
  ·intro W0 hSw; (try dsimp only at hSw); go_simp <;> with_reducible rfl
  try simp only [Act.put, ag, ah, ai]
  refine wpAnyH_take (i := 19) (oi := ({ dst := some 67, op := Op.load 27 (Operand.tmp 10), type := 27, pos := "laws.go:392", after := #[{ on := 16, ground := Ground.guard }], guard := some (16, false) } : Oper)) (v := ?_) rfl (by kernel_rfl) (by kernel_rfl) (by kernel_rfl) (fun _ _ _ h => h) (Or.inl ⟨by kernel_rfl, ?_⟩) (by assumption) ?_
  rotate_left
  ·intro W0 hSw; (try dsimp only at hSw); go_simp <;> with_reducible rfl
  try simp only [Act.put, ag, ah, ai]
  refine wpAnyH_ready (rs := [18]) (by kernel_rfl) (by simp) ?_
  refine (AllReadyH.cons rfl (fun K hK => ?_) AllReadyH.nil)
  go_simp
  refine (yy cR1 V5 ((yy HE).kept (yy HV)) ((yy HCR).kept (yy HV)).stars).mono ?_
  rintro e V6 ⟨⟨y1, d1, rfl, hq⟩, hx⟩
  replace HV := yz (aj (yy HV) hx)
  have HA := yz hq
  clear hx hq
  refine hK.out _ _ ?_ (fun hHeld6 => ?_)
  ·exact yy HKS _ (yy HV)
  clear hK K
  refine wpAnyH_ready (rs := [20]) (by kernel_rfl) (by simp) ?_
  refine (AllReadyH.cons rfl (fun K hK => ?_) AllReadyH.nil)
  go_simp
  refine (yy cR2 V6 ((yy HCR).kept (yy HV)).stars).mono ?_
  rintro e V7 ⟨⟨y2, d2, rfl, hq⟩, hx⟩
  replace HV := yz (aj (yy HV) hx)
  replace HA := yz ((yy HA).kept hx)
  have HA2 := yz hq
  clear hx hq
  refine hK.out _ _ ?_ (fun hHeld7 => ?_)
  ·exact yy HKS _ (yy HV)
  clear hK K
  refine wpAnyH_ready (rs := [21]) (by kernel_rfl) (by simp) ?_
  refine (AllReadyH.cons rfl (fun K hK => ?_) AllReadyH.nil)
  go_simp
  refine (yy cOR V7 y1 y2 d1 d2 (yy HA).stars (yy HA2).stars).mono ?_
  rintro e V8 ⟨rfl, hx⟩
  replace HV := yz (aj (yy HV) hx)
  clear hx HA HA2
  refine hK.out _ _ ?_ (fun hHeld8 => ?_)
  ·exact yy HKS _ (yy HV)
  clear hK K
  refine wpAnyH_take (i := 22) (oi := ({ dst := some 70, op := Op.unOp UnOp.not 4 (Operand.tmp 69), type := 4, pos := "laws.go:392", after := #[{ on := 21, ground := Ground.data }, { on := 16, ground := Ground.guard }], guard := some (16, false) } : Oper)) (v := (.bool false)) rfl (by kernel_rfl) (by kernel_rfl) (by kernel_rfl) (fun _ _ _ h => h) (Or.inl ⟨by kernel_rfl, ?_⟩) (by assumption) ?_
  ·intro W0 hSw; (try dsimp only at hSw); go_simp <;> simp
  try simp only [Act.put, ag, ah, ai]
  refine wpAnyH_take (i := 23) (oi := ({ dst := some 71, op := Op.pick (Operand.tmp 64) (Operand.const (Value.bool true)) (Operand.tmp 70), type := 4, pos := "laws.go:392", after := #[{ on := 16, ground := Ground.data }, { on := 22, ground := Ground.data }], guard := none } : Oper)) (v := (.bool false)) rfl (by kernel_rfl) (by kernel_rfl) (by kernel_rfl) (fun _ _ _ h => h) (Or.inl ⟨by kernel_rfl, ?_⟩) (by assumption) ?_
  ·intro W0 hSw; (try dsimp only at hSw); go_simp <;> simp
  try simp only [Act.put, ag, ah, ai]
  refine wpAnyH_take (i := 24) (oi := ({ dst := some 72, op := Op.move (Operand.tmp 71), type := 4, pos := "laws.go:392", after := #[{ on := 23, ground := Ground.data }, { on := 21, ground := Ground.chain }], guard := none } : Oper)) (v := ?_) rfl (by kernel_rfl) (by kernel_rfl) (by kernel_rfl) (fun _ _ _ h => h) (Or.inl ⟨by kernel_rfl, ?_⟩) (by assumption) ?_
  rotate_left
  ·intro W0 hSw; (try dsimp only at hSw); go_simp <;> with_reducible rfl
  try simp only [Act.put, ag, ah, ai]
  refine wpAnyH_take (i := 25) (oi := ({ dst := some 73, op := Op.move (Operand.tmp 11), type := 23, pos := "laws.go:392", after := #[{ on := 24, ground := Ground.guard }], guard := some (24, false) } : Oper)) (v := ?_) rfl (by kernel_rfl) (by kernel_rfl) (by kernel_rfl) (fun _ _ _ h => h) (Or.inl ⟨by kernel_rfl, ?_⟩) (by assumption) ?_
  rotate_left
  ·intro W0 hSw; (try dsimp only at hSw); go_simp <;> with_reducible rfl
  try simp only [Act.put, ag, ah, ai]
  refine wpAnyH_take (i := 26) (oi := ({ dst := some 74, op := Op.move (Operand.tmp 12), type := 2, pos := "laws.go:392", after := #[{ on := 24, ground := Ground.guard }], guard := some (24, false) } : Oper)) (v := ?_) rfl (by kernel_rfl) (by kernel_rfl) (by kernel_rfl) (fun _ _ _ h => h) (Or.inl ⟨by kernel_rfl, ?_⟩) (by assumption) ?_
  rotate_left
  ·intro W0 hSw; (try dsimp only at hSw); go_simp <;> with_reducible rfl
  try simp only [Act.put, ag, ah, ai]
  refine wpAnyH_take (i := 28) (oi := ({ dst := some 76, op := Op.move (Operand.tmp 11), type := 23, pos := "laws.go:392", after := #[{ on := 24, ground := Ground.guard }], guard := some (24, false) } : Oper)) (v := ?_) rfl (by kernel_rfl) (by kernel_rfl) (by kernel_rfl) (fun _ _ _ h => h) (Or.inl ⟨by kernel_rfl, ?_⟩) (by assumption) ?_
  rotate_left
  ·intro W0 hSw; (try dsimp only at hSw); go_simp <;> with_reducible rfl
  try simp only [Act.put, ag, ah, ai]
  refine wpAnyH_take (i := 29) (oi := ({ dst := some 77, op := Op.move (Operand.tmp 12), type := 2, pos := "laws.go:392", after := #[{ on := 24, ground := Ground.guard }], guard := some (24, false) } : Oper)) (v := ?_) rfl (by kernel_rfl) (by kernel_rfl) (by kernel_rfl) (fun _ _ _ h => h) (Or.inl ⟨by kernel_rfl, ?_⟩) (by assumption) ?_
  rotate_left
  ·intro W0 hSw; (try dsimp only at hSw); go_simp <;> with_reducible rfl
  try simp only [Act.put, ag, ah, ai]
  refine wpAnyH_ready (rs := [27]) (by kernel_rfl) (by simp) ?_
  refine (AllReadyH.cons rfl (fun K hK => ?_) AllReadyH.nil)
  go_simp
  refine (yy cN1 V8 ((yy HE).kept (yy HV)) ((yy HCN).kept (yy HV)).stars).mono ?_
  rintro e V9 ⟨⟨y1, d1, rfl, hq⟩, hx⟩
  replace HV := yz (aj (yy HV) hx)
  have HA := yz hq
  clear hx hq
  refine hK.out _ _ ?_ (fun hHeld9 => ?_)
  ·exact yy HKS _ (yy HV)
  clear hK K
  refine wpAnyH_ready (rs := [30]) (by kernel_rfl) (by simp) ?_
  refine (AllReadyH.cons rfl (fun K hK => ?_) AllReadyH.nil)
  go_simp
  refine (yy cN2 V9 ((yy HCN).kept (yy HV)).stars).mono ?_
  rintro e V10 ⟨⟨y2, d2, rfl, hq⟩, hx⟩
  replace HV := yz (aj (yy HV) hx)
  replace HA := yz ((yy HA).kept hx)
  have HA2 := yz hq
  clear hx hq
  refine hK.out _ _ ?_ (fun hHeld10 => ?_)
  ·exact yy HKS _ (yy HV)
  clear hK K
  refine wpAnyH_ready (rs := [31]) (by kernel_rfl) (by simp) ?_
  refine (AllReadyH.cons rfl (fun K hK => ?_) AllReadyH.nil)
  go_simp
  refine (yy cON V10 y1 y2 d1 d2 (yy HA).stars (yy HA2).stars).mono ?_
  rintro e V11 ⟨rfl, hx⟩
  replace HV := yz (aj (yy HV) hx)
  clear hx HA HA2
  refine hK.out _ _ ?_ (fun hHeld11 => ?_)
  ·exact yy HKS _ (yy HV)
  clear hK K
  refine wpAnyH_take (i := 32) (oi := ({ dst := some 80, op := Op.unOp UnOp.not 4 (Operand.tmp 79), type := 4, pos := "laws.go:392", after := #[{ on := 31, ground := Ground.data }, { on := 24, ground := Ground.guard }], guard := some (24, false) } : Oper)) (v := (.bool false)) rfl (by kernel_rfl) (by kernel_rfl) (by kernel_rfl) (fun _ _ _ h => h) (Or.inl ⟨by kernel_rfl, ?_⟩) (by assumption) ?_
  ·intro W0 hSw; (try dsimp only at hSw); go_simp <;> simp
  try simp only [Act.put, ag, ah, ai]
  refine wpAnyH_take (i := 33) (oi := ({ dst := some 81, op := Op.pick (Operand.tmp 72) (Operand.const (Value.bool true)) (Operand.tmp 80), type := 4, pos := "laws.go:392", after := #[{ on := 24, ground := Ground.data }, { on := 32, ground := Ground.data }], guard := none } : Oper)) (v := (.bool false)) rfl (by kernel_rfl) (by kernel_rfl) (by kernel_rfl) (fun _ _ _ h => h) (Or.inl ⟨by kernel_rfl, ?_⟩) (by assumption) ?_
  ·intro W0 hSw; (try dsimp only at hSw); go_simp <;> simp
  try simp only [Act.put, ag, ah, ai]
  refine wpAnyH_take (i := 34) (oi := ({ dst := some 82, op := Op.move (Operand.tmp 81), type := 4, pos := "laws.go:392", after := #[{ on := 33, ground := Ground.data }, { on := 31, ground := Ground.chain }], guard := none } : Oper)) (v := ?_) rfl (by kernel_rfl) (by kernel_rfl) (by kernel_rfl) (fun _ _ _ h => h) (Or.inl ⟨by kernel_rfl, ?_⟩) (by assumption) ?_
  rotate_left
  ·intro W0 hSw; (try dsimp only at hSw); go_simp <;> with_reducible rfl
  try simp only [Act.put, ag, ah, ai]
  refine wpAnyH_take (i := 35) (oi := ({ dst := some 83, op := Op.load 27 (Operand.tmp 10), type := 27, pos := "laws.go:392", after := #[{ on := 34, ground := Ground.guard }], guard := some (34, false) } : Oper)) (v := ?_) rfl (by kernel_rfl) (by kernel_rfl) (by kernel_rfl) (fun _ _ _ h => h) (Or.inl ⟨by kernel_rfl, ?_⟩) (by assumption) ?_
  rotate_left
  ·intro W0 hSw; (try dsimp only at hSw); go_simp <;> with_reducible rfl
  try simp only [Act.put, ag, ah, ai]
  refine wpAnyH_take (i := 37) (oi := ({ dst := some 85, op := Op.load 27 (Operand.tmp 10), type := 27, pos := "laws.go:392", after := #[{ on := 34, ground := Ground.guard }], guard := some (34, false) } : Oper)) (v := ?_) rfl (by kernel_rfl) (by kernel_rfl) (by kernel_rfl) (fun _ _ _ h => h) (Or.inl ⟨by kernel_rfl, ?_⟩) (by assumption) ?_
  rotate_left
  ·intro W0 hSw; (try dsimp only at hSw); go_simp <;> with_reducible rfl
  try simp only [Act.put, ag, ah, ai]
  refine wpAnyH_ready (rs := [36]) (by kernel_rfl) (by simp) ?_
  refine (AllReadyH.cons rfl (fun K hK => ?_) AllReadyH.nil)
  go_simp
  refine (yy cT1 V11 ((yy HCR).kept (yy HV)).stars ((yy HE).kept (yy HV))).mono ?_
  rintro e V12 ⟨rfl, hx⟩
  replace HV := yz (aj (yy HV) hx)
  clear hx 
  refine hK.out _ _ ?_ (fun hHeld12 => ?_)
  ·exact yy HKS _ (yy HV)
  clear hK K
  refine wpAnyH_ready (rs := [38]) (by kernel_rfl) (by simp) ?_
  refine (AllReadyH.cons rfl (fun K hK => ?_) AllReadyH.nil)
  go_simp
  refine (yy cT2 V12 ((yy HCR).kept (yy HV)).stars).mono ?_
  rintro e V13 ⟨rfl, hx⟩
  replace HV := yz (aj (yy HV) hx)
  clear hx 
  refine hK.out _ _ ?_ (fun hHeld13 => ?_)
  ·exact yy HKS _ (yy HV)
  clear hK K
  refine wpAnyH_take (i := 39) (oi := ({ dst := some 87, op := Op.binOp BinOp.neq 4 (Operand.tmp 84) (Operand.tmp 86) 4, type := 4, pos := "laws.go:392", after := #[{ on := 36, ground := Ground.data }, { on := 38, ground := Ground.data }, { on := 34, ground := Ground.guard }], guard := some (34, false) } : Oper)) (v := (.bool false)) rfl (by kernel_rfl) (by kernel_rfl) (by kernel_rfl) (fun _ _ _ h => h) (Or.inl ⟨by kernel_rfl, ?_⟩) (by assumption) ?_
  ·intro W0 hSw; (try dsimp only at hSw); go_simp <;> simp
  try simp only [Act.put, ag, ah, ai]
  refine wpAnyH_take (i := 40) (oi := ({ dst := some 88, op := Op.pick (Operand.tmp 82) (Operand.const (Value.bool true)) (Operand.tmp 87), type := 4, pos := "laws.go:392", after := #[{ on := 34, ground := Ground.data }, { on := 39, ground := Ground.data }], guard := none } : Oper)) (v := (.bool false)) rfl (by kernel_rfl) (by kernel_rfl) (by kernel_rfl) (fun _ _ _ h => h) (Or.inl ⟨by kernel_rfl, ?_⟩) (by assumption) ?_
  ·intro W0 hSw; (try dsimp only at hSw); go_simp <;> simp
  try simp only [Act.put, ag, ah, ai]
  refine wpAnyH_done (by kernel_rfl) ?_ _
  go_wp2_with fail
  go_meet
  exact ⟨_, rfl, rfl, HV⟩
 case rest =>
  obtain ⟨wv, hwv, hu, HV⟩ := hcut
  subst hu
  clear hwv wv HKS cS1 cG1 cG2 cOG cR1 cR2 cOR cN1 cN2 cON cOX cT1 cT2 tb kG kR kN vG vR vN HG HU HRb HCG HCR HCN hgq hrq hnq
  have hx := yy HV
  replace HE := yz ((yy HE).kept hx)
  replace HC : Hid (aq _ w.heap.size t.L a cap) := yz ((yy HC).kept hx)
  replace HP := yz (bA (yy HP) hx)
  replace HB := yz (aj (yy HB) hx)
  replace HT := yz ((yy HT).kept hx)
  replace HC1 : Hid (aq _ W2.heap.size u.L a1 cap1) := yz ((yy HC1).kept hx)
  replace HX := yz ((yy HX).kept hx)
  have hzc := hx.size
  clear hx HV
  have x9 := (yy HX).cell 9 _ rfl
  have x2 := (yy HX).cell 2 _ rfl
  by_cases hc0 : ¬ code = 0
  ·have hc1 : (code == 0) = false := by simpa using hc0
   go_wp2_with fail
   go_ret
   exact ⟨rfl, yy HB⟩
  replace hc0 : code = 0 := Decidable.not_not.mp hc0
  subst hc0
  by_cases hm : ¬ u.mode = 1
  ·have hm1 : (u.mode == 1) = false := by simpa using hm
   go_wp2_with fail
   go_ret
   exact ⟨rfl, yy HB⟩
  replace hm : u.mode = 1 := Decidable.not_not.mp hm
  have HTWO : Hid (2 ≤ aJ (aV t.L u.A u.B u.C u.D S)) := yz (by have := tL (t := ⟨t.L, t.lim, t.mode, t.A, t.B, t.C, t.D, t.coast, t.fr⟩) (S := S) (yy HCO).symm (by rw [← yy HU0]; exact hm); rw [← yy HU0] at this; exact this)
  have HBL : Hid (kp u u 0) := yz (pn (by have := yy HQX rfl; exact this) hm)
  have hlim : 1 ≤ u.lim ∧ u.lim ≤ 5 := sY (yy HBL).right
  rw [hm] at x2
  have HM := yz hm
  clear hm HQX HU0 HCO
  have p0 := (yy HT).cell 0 _ rfl
  have x3 := (yy HX).cell 3 _ rfl
  have x4 := (yy HX).cell 4 _ rfl
  have x5 := (yy HX).cell 5 _ rfl
  have x6 := (yy HX).cell 6 _ rfl
  have cM := yz (gz t.L S a sa cap sc u.A u.B u.C u.D p wc (by omega) (yy HC).capMax.1 hcq (by omega) hsq.1 (by omega) (yy HC).stars (eL (yy HP)).1 (yy HE))
  have hml := nE t.L u.A u.B u.C u.D S
  obtain ⟨ids, HIDS⟩ : ∃ i, i = aV t.L u.A u.B u.C u.D S := ⟨_, rfl⟩
  rw [← HIDS] at cM HTWO hml
  clear HIDS
  go_wp2_with fail
  refine (yy cM).mono ?_
  rintro e V1 ⟨⟨v, rfl, hPR⟩, hx⟩
  obtain ⟨ia, ik, hv, hI⟩ := kg rfl hPR
  subst hv
  clear hPR cM p0 x2 x3 x4 x5 x6 x9
  replace HB := yz (aj (yy HB) hx)
  replace HC1 : Hid (aq _ W2.heap.size u.L a1 cap1) := yz ((yy HC1).kept hx)
  replace HX := yz ((yy HX).kept hx)
  have hz2 := hx.size
  clear hx HE HC HP HT
  rcases hI with h0 | ⟨ib, io, rfl, hib, hic⟩
  ·exfalso
   have h1 := eU ids
   have h2 := yy HTWO
   omega
  have HIC := yz hic
  clear hic
  have HTK : Hid (aJ (ids.take ids.length) = aJ ids) := yz (by rw [List.take_length])
  go_wp2_with fail
  go_loop [14, 15] (fun q i => ∃ k : Nat, k ≤ ids.length ∧ i = .int .i64 k ∧ q = .int .i64 (aJ (ids.take k) : Int)) (fun _ i => ids.length - (intOf i).toNat)
  case atStart => exact ⟨0, Nat.zero_le _, rfl, rfl⟩
  case round =>
   obtain ⟨k, hkl, rfl, rfl⟩ := hrel
   by_cases hkn : k < ids.length
   ·have c0 := yy HIC k hkn
    have HS := yz (ie ids hkn)
    have hle := eU (ids.take k)
    rw [List.length_take] at hle
    have hle2 : (aJ (ids.take k) : Int) ≤ 1048576 := by omega
    have hkn2 : (k : Int) < (ids.length : Int) := by omega
    generalize ids.getD k 0 = z at *
    by_cases hz : z = 0
    ·have HS2 : Hid (aJ (ids.take (k + 1)) = aJ (ids.take k)) := yz (by rw [yy HS, if_neg (by simpa using hz)]; rfl)
     subst hz
     go_wp2_with fail
     go_round
     case rel => exact ⟨k + 1, by omega, by go_num, by rw [yy HS2]⟩
     case measure => simp [intOf]; omega
    ·have HS2 : Hid (aJ (ids.take (k + 1)) = aJ (ids.take k) + 1) := yz (by rw [yy HS, if_pos hz])
     have hz1 : (z == 0) = false := by simpa using hz
     go_wp2_with fail
     go_round
     case rel => exact ⟨k + 1, by omega, by go_num, by rw [yy HS2]; go_num⟩
     case measure => simp [intOf]; omega
   ·obtain rfl : k = ids.length := by omega
    rw [yy HTK]
    have hc2 := yy HTWO
    have hc6 := eU ids
    have hcn : ¬ (aJ ids : Int) < 2 := by omega
    generalize aJ ids = cn at *
    generalize ids.length = il at *
    clear hkn hkl HTWO HTK HIC hml hib
    have HB0 := HB
    obtain ⟨x0, x1, x2, x3, x4, x5, x6, x7, x8⟩ := dM (yy HX)
    have hy := an V1 (.cells #[.slice a1 u.L.length cap1, .int .i64 u.lim, .int .i64 u.mode, .int .i64 u.A, .int .i64 u.B, .int .i64 u.C, .int .i64 u.D, .int .i64 u.coast, .int .i64 u.fr] 27)
    have HKB := yz (aD V1 [.slice a1 u.L.length cap1, .int .i64 u.lim, .int .i64 u.mode, .int .i64 u.A, .int .i64 u.B, .int .i64 u.C, .int .i64 u.D, .int .i64 u.coast, .int .i64 u.fr] 27)
    replace HB := yz (aj (yy HB) hy)
    replace HC1 : Hid (aq _ W2.heap.size u.L a1 cap1) := yz ((yy HC1).kept hy)
    clear hy
    have hwk : w.heap.size ≤ V1.heap.size := (yy HB0).size
    go_wp2_with fail
    clear x0 x1 x2 x3 x4 x5 x6 x7 x8 HB0 HX
    generalize V1.alloc (.cells #[.slice a1 u.L.length cap1, .int .i64 u.lim, .int .i64 u.mode, .int .i64 u.A, .int .i64 u.B, .int .i64 u.C, .int .i64 u.D, .int .i64 u.coast, .int .i64 u.fr] 27) = V2 at *
    generalize V1.heap.size = kb at *
    have HST : Hid (vf w V2 kb u u 0 a1 cap1) := yz ⟨rfl, .inl ⟨yy HBL, by omega⟩, by omega, hlu, yy HKB, World.ownsRow.mono (yy HC1) hw2, yy HB⟩
    clear HKB HC1 HB
    go_loopw [17] (fun v wr => ∃ (i : Nat) (kt : Tk) (ka : Option Addr) (kc : Nat), v = .int .i64 (i : Int) ∧ Hid (vf w wr kb u kt i ka kc)) (fun v _ => 7 - (intOf v).toNat)
    case atStart => exact ⟨0, u, a1, cap1, rfl, HST⟩
    case round =>
     obtain ⟨i, kt, ka, kc, rfl, HS⟩ := hrel
     clear HST
     have k1 := (yy HS).blk.cell 1 _ rfl
     have k8 := (yy HS).blk.cell 8 _ rfl
     have hlk := (yy HS).lim
     have hil6 := (yy HS).il
     have hlen2 := (yy HS).len
     by_cases hil : ¬ (i : Int) ≤ kt.lim
     ·have hil2 : kt.lim < (i : Int) := by omega
      replace hlk := yz hlk
      go_wp2_with fail
      go_ret
      exact ⟨rfl, (yy HS).bel⟩
     replace hil : (i : Int) ≤ kt.lim := Decidable.not_not.mp hil
     by_cases hfr : ¬ kt.fr < 999990
     ·replace hlk := yz hlk
      go_wp2_with fail
      go_ret
      exact ⟨rfl, (yy HS).bel⟩
     replace hfr : kt.fr < 999990 := Decidable.not_not.mp hfr
     have HBI : Hid (kp u kt i) := yz ((yy HS).st.elim (fun h => h.1) (fun h => absurd h (by omega)))
     obtain ⟨b1, b2, b3, b4, b5⟩ := qx (yy HBI) (by omega)
     have hlq : kt.lim ≤ 5 := by omega
     replace hlk := yz hlk
     have HEi := yz ((yy HE0).kept (yy HS).bel)
     have cY := yz (jq kt.L [] kt.lim kt.mode kt.A kt.B kt.C kt.D kt.coast kt.fr ka kc none 0 p wr (by omega) (by simp) (yy HS).cop.stars (.inl rfl) (fun x e => (bf (yy HS).cop x e).2) (fun x e => by cases e) (yy HS).cop.capMax.1 (by have := (yy HS).cop.capMax.2; omega) (by simp) (by omega) (yy HEi))
     obtain ⟨y, HY0⟩ : ∃ u, u = bd ⟨kt.L, kt.lim, kt.mode, kt.A, kt.B, kt.C, kt.D, kt.coast, kt.fr⟩ [] := ⟨_, rfl⟩
     have hb1 : dP ⟨kt.L, kt.lim, kt.mode, kt.A, kt.B, kt.C, kt.D, kt.coast, kt.fr⟩ [] = 0 := b1
     rw [← HY0, hb1] at cY
     have hyL : y.L = kt.L := by rw [HY0]; exact b2
     have hyl : y.lim = kt.lim := by rw [HY0]; exact b3
     have B5 : Hid (((i : Int) < kt.lim ∧ y.mode = 2 ∧ kp u y (i + 1)) ∨ (¬ (i : Int) < kt.lim ∧ y.mode = 0)) := yz (by rw [HY0]; exact b5)
     replace hyL := yz hyL
     replace hyl := yz hyl
     clear b1 b2 b3 b4 b5 hb1 HY0 HBI HEi
     have k0 := (yy HS).blk.cell 0 _ rfl
     have k2 := (yy HS).blk.cell 2 _ rfl
     have k3 := (yy HS).blk.cell 3 _ rfl
     have k4 := (yy HS).blk.cell 4 _ rfl
     have k5 := (yy HS).blk.cell 5 _ rfl
     have k6 := (yy HS).blk.cell 6 _ rfl
     have k7 := (yy HS).blk.cell 7 _ rfl
     have hnil : (([] : List D3).length : Nat) = 0 := rfl
     rw [hnil] at cY
     go_wp2_with fail
     refine (yy cY).mono ?_
     rintro e V3 ⟨⟨ya, yc, rfl, hCy⟩, hx⟩
     clear k0 k1 k2 k3 k4 k5 k6 k7 k8 cY
     replace hx := hx
     have HKB := yz ((yy HS).blk.kept hx)
     have HCK := yz ((yy HS).cop.kept hx)
     have HBk := yz (aj (yy HS).bel hx)
     have HCY := yz hCy
     have hz3 := hx.size
     have hkz := (yy HS).blk.lt
     clear hx hCy
     have hy := an V3 (.cells #[.slice ya y.L.length yc, .int .i64 y.lim, .int .i64 y.mode, .int .i64 y.A, .int .i64 y.B, .int .i64 y.C, .int .i64 y.D, .int .i64 y.coast, .int .i64 y.fr, .int .i64 0] 32)
     have HYB := yz (aD V3 [.slice ya y.L.length yc, .int .i64 y.lim, .int .i64 y.mode, .int .i64 y.A, .int .i64 y.B, .int .i64 y.C, .int .i64 y.D, .int .i64 y.coast, .int .i64 y.fr, .int .i64 0] 32)
     replace HKB := yz ((yy HKB).kept hy)
     replace HCK : Hid (aq _ w.heap.size kt.L ka kc) := yz ((yy HCK).kept hy)
     replace HBk := yz (aj (yy HBk) hy)
     replace HCY : Hid (aq _ wr.heap.size y.L ya yc) := yz ((yy HCY).kept hy)
     clear hy
     go_upto_region 25 with fail
     generalize V3.alloc (.cells #[.slice ya y.L.length yc, .int .i64 y.lim, .int .i64 y.mode, .int .i64 y.A, .int .i64 y.B, .int .i64 y.C, .int .i64 y.D, .int .i64 y.coast, .int .i64 y.fr, .int .i64 0] 32) = V4 at *
     have hyk : kb < V3.heap.size := by omega
     generalize V3.heap.size = yb at *
     have k1 := (yy HKB).cell 1 _ rfl
     obtain ⟨y0, y1, y2, y3, y4, y5, y6, y7, y8, y9⟩ := ej (yy HYB)
     obtain ⟨c0, c1, c2, c3, c4, c5, c6, c7, c8⟩ : V4.cell? ⟨kb, 0, none⟩ = some (.slice ka kt.L.length kc) ∧ V4.cell? ⟨kb, 1, none⟩ = some (.int .i64 kt.lim) ∧ V4.cell? ⟨kb, 2, none⟩ = some (.int .i64 kt.mode) ∧ V4.cell? ⟨kb, 3, none⟩ = some (.int .i64 kt.A) ∧ V4.cell? ⟨kb, 4, none⟩ = some (.int .i64 kt.B) ∧ V4.cell? ⟨kb, 5, none⟩ = some (.int .i64 kt.C) ∧ V4.cell? ⟨kb, 6, none⟩ = some (.int .i64 kt.D) ∧ V4.cell? ⟨kb, 7, none⟩ = some (.int .i64 kt.coast) ∧ V4.cell? ⟨kb, 8, none⟩ = some (.int .i64 kt.fr) := ⟨(yy HKB).cell 0 _ rfl, (yy HKB).cell 1 _ rfl, (yy HKB).cell 2 _ rfl, (yy HKB).cell 3 _ rfl, (yy HKB).cell 4 _ rfl, (yy HKB).cell 5 _ rfl, (yy HKB).cell 6 _ rfl, (yy HKB).cell 7 _ rfl, (yy HKB).cell 8 _ rfl⟩
     obtain ⟨f0, f1, f2, f3, f4, f5, f6, f7, f8⟩ : V4.frozen? ⟨kb, 0, none⟩ = false ∧ V4.frozen? ⟨kb, 1, none⟩ = false ∧ V4.frozen? ⟨kb, 2, none⟩ = false ∧ V4.frozen? ⟨kb, 3, none⟩ = false ∧ V4.frozen? ⟨kb, 4, none⟩ = false ∧ V4.frozen? ⟨kb, 5, none⟩ = false ∧ V4.frozen? ⟨kb, 6, none⟩ = false ∧ V4.frozen? ⟨kb, 7, none⟩ = false ∧ V4.frozen? ⟨kb, 8, none⟩ = false := ⟨(yy HKB).free 0, (yy HKB).free 1, (yy HKB).free 2, (yy HKB).free 3, (yy HKB).free 4, (yy HKB).free 5, (yy HKB).free 6, (yy HKB).free 7, (yy HKB).free 8⟩
     have hgq := eQ V4 kb (.slice ya y.L.length yc) (.int .i64 y.lim) (.int .i64 y.mode) (.int .i64 y.A) (.int .i64 y.B) (.int .i64 y.C) (.int .i64 y.D) (.int .i64 y.coast) (.int .i64 y.fr)
     have HKN := yz (kO (yy HKB) (.slice ya y.L.length yc) (.int .i64 y.lim) (.int .i64 y.mode) (.int .i64 y.A) (.int .i64 y.B) (.int .i64 y.C) (.int .i64 y.D) (.int .i64 y.coast) (.int .i64 y.fr))
     have HCN : Hid (aq _ wr.heap.size y.L ya yc) := yz (World.ownsRow.kept (yy HCY) hgq (bl (yy HCY) (yy HKB) (by decide)))
     have HBN := yz (bP (yy HBk) hgq (yy HBk).size (fun q e => by have h1 := Option.some.inj e; omega))
     clear hgq c1
     have hwr := (yy HS).bel.size
     have HNW : Hid (((i : Int) < kt.lim → kp u y (i + 1)) → vf w _ kb u y (i + 1) ya yc) := yz (fun h => ⟨by rw [yy hyl]; exact yy hlk, (Decidable.em ((i : Int) < kt.lim)).elim (fun hq => .inl ⟨h hq, by have h9 := yy hlk; omega⟩) (fun hq => .inr (by have h9 := yy hlk; omega)), by have h9 := yy hlk; omega, by rw [yy hyL]; exact hlen2, yy HKN, World.ownsRow.mono (yy HCN) hwr, yy HBN⟩)
     clear HKB HYB HCK HCY HBk HKN HCN HBN HS
     rcases yy B5 with ⟨j1, j2, j3⟩ | ⟨j1, j2⟩
     ·rw [j2] at y2
      have HN2 := yy HNW (fun h => j3)
      rw [j2] at HN2
      replace HN2 := yz HN2
      clear B5 j2 HNW j3
      have hne : ((i : Int) == kt.lim) = false := by simp; omega
      go_wp2_with fail
      go_roundw
      case rel =>  exact ⟨i + 1, y, ya, yc, by go_num, HN2⟩
      case measure => simp [intOf] <;> omega
     ·rw [j2] at y2
      have HN2 := yy HNW (fun h => absurd h (by omega))
      rw [j2] at HN2
      replace HN2 := yz HN2
      clear B5 j2 HNW
      have hne : ((i : Int) == kt.lim) = true := by simp; omega
      go_wp2_with fail
      go_roundw
      case rel =>  exact ⟨i + 1, y, ya, yc, by go_num, HN2⟩
      case measure => simp [intOf] <;> omega
end
end Go.Proofs.YtgiodlllokdcdaaGreatDoor
