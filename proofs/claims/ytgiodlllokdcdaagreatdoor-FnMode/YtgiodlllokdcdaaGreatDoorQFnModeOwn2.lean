/- Several texts in one: VecD, VecE, VecI, VecJ, VecK, VecL, VecF, VecG, VecH, SkyB, WideT, RowF, MarkS, Place. -/
import Derived.Deep.RegionWith
import Derived.Lib.QuietBelow
import Derived.Deep.QuietTactic
import Derived.BigQuiet
import Derived.BigRegion
import Derived.OwnWalk
import Derived.Laws.OwnMore
import Derived.Deep.RegionHeld
import Derived.Deep.DeepCutAuto
import Derived.Test.YtgiodlllokdcdaaGreatDoorQFnModeOwn1
namespace Go.Proofs.YtgiodlllokdcdaaGreatDoor
set_option linter.unusedVariables false
set_option linter.unusedSimpArgs false
set_option maxRecDepth 100000
set_option maxHeartbeats 8000000
section
open Go.RowKit
def aF (w : World) (b : Nat) (x y z : Int) : Prop := w.cell? ⟨b, 0, none⟩ = some (.int .i64 x) ∧ w.cell? ⟨b, 1, none⟩ = some (.int .i64 y) ∧ w.cell? ⟨b, 2, none⟩ = some (.int .i64 z)
def dn (w : World) (b : Nat) : Prop := w.frozen? ⟨b, 0, none⟩ = false ∧ w.frozen? ⟨b, 1, none⟩ = false ∧ w.frozen? ⟨b, 2, none⟩ = false
theorem aF.kept {w w' : World} {b : Nat} {x y z : Int} (h : aF w b x y z) (hb : b < w.heap.size) (hB : Below w.heap.size w w') : aF w' b x y z := by
 obtain ⟨h0, h1, h2⟩ := h
 exact ⟨by rw [hB.cell (p := ⟨b, 0, none⟩) hb]; exact h0, by rw [hB.cell (p := ⟨b, 1, none⟩) hb]; exact h1, by rw [hB.cell (p := ⟨b, 2, none⟩) hb]; exact h2⟩
theorem dn.kept {w w' : World} {b : Nat} (h : dn w b) (hb : b < w.heap.size) (hB : Below w.heap.size w w') : dn w' b := by
 obtain ⟨h0, h1, h2⟩ := h
 exact ⟨by rw [hB.frozen (p := ⟨b, 0, none⟩) hb]; exact h0, by rw [hB.frozen (p := ⟨b, 1, none⟩) hb]; exact h1, by rw [hB.frozen (p := ⟨b, 2, none⟩) hb]; exact h2⟩
theorem aE (w : World) (x y z : Int) (t : TypeId) : aF (w.alloc (.cells #[.int .i64 x, .int .i64 y, .int .i64 z] t)) w.heap.size x y z := by
 refine ⟨?_, ?_, ?_⟩ <;> simp
theorem cq (w : World) (x y z : Int) (t : TypeId) : dn (w.alloc (.cells #[.int .i64 x, .int .i64 y, .int .i64 z] t)) w.heap.size := by
 refine ⟨?_, ?_, ?_⟩ <;> simp
theorem aF.alloc {w : World} {b : Nat} {x y z : Int} (h : aF w b x y z) (hb : b < w.heap.size) (o : Obj) : aF (w.alloc o) b x y z := h.kept hb (an _ _)
theorem aU {w w1 : World} {b : Nat} (h : Below w.heap.size w w1) (hb : w.heap.size ≤ b) (x y z : Value) : Below w.heap.size w (((w1.setCell ⟨b, 0, none⟩ x).setCell ⟨b, 1, none⟩ y).setCell ⟨b, 2, none⟩ z) := ((h.setCell hb _).setCell hb _).setCell hb _
theorem tl (w : World) (a b c d : Obj) : Below w.heap.size w ((((w.alloc a).alloc b).alloc c).alloc d) := (dp w a b c).alloc (by simp; omega) _
theorem ol (a1 a2 a3 b1 b2 b3 : Int) (w : World) :
  Calls Tryz.prog 86 #[.agg #[.int .i64 a1, .int .i64 a2, .int .i64 a3], .agg #[.int .i64 b1, .int .i64 b2, .int .i64 b3]] w fun e w' => e = .returned (.int .i64 (oj a1 a2 a3 b1 b2 b3)) ∧ Below w.heap.size w w' := by
 go_enter Tryz.func86, Tryz.ntmps86
 go_wp2_with fail
 refine (bF a1 a2 a3 _).mono ?_
 rintro e w1 ⟨rfl, hB1⟩
 have hB : Below w.heap.size w w1 := aj (aM _ _ _) hB1
 have hs : w.heap.size + 2 ≤ w1.heap.size := by have := hB1.size; simpa [Nat.add_assoc] using this
 have va : aF w1 w.heap.size a1 a2 a3 := ((by simpa using aE w a1 a2 a3 _ : aF _ w.heap.size a1 a2 a3).alloc (by simp) _).kept (by simp; omega) hB1
 have vb : aF w1 (w.heap.size + 1) b1 b2 b3 := (by simpa using aE (w.alloc _) b1 b2 b3 _ : aF _ (w.heap.size + 1) b1 b2 b3).kept (by simp) hB1
 clear hB1
 have hva := va
 obtain ⟨ca0, ca1, ca2⟩ := va
 have hvb := vb
 obtain ⟨cb0, cb1, cb2⟩ := vb
 cases ha : ay a1 a2 a3
 ·go_wp2_with fail
  go_ret
  exact ⟨by simp [oj, ha], hB⟩
 ·go_wp2_with fail
  refine (bF b1 b2 b3 _).mono ?_
  rintro e w2 ⟨rfl, hB2⟩
  have va := hva.kept (by omega) hB2
  have vb := hvb.kept (by omega) hB2
  replace hs : w.heap.size + 2 ≤ w2.heap.size := by have := hB2.size; omega
  replace hB : Below w.heap.size w w2 := aj hB hB2
  clear hva ca0 ca1 ca2 hvb cb0 cb1 cb2
  clear hB2
  have hva := va
  obtain ⟨ca0, ca1, ca2⟩ := va
  have hvb := vb
  obtain ⟨cb0, cb1, cb2⟩ := vb
  cases hb : ay b1 b2 b3
  ·go_wp2_with fail
   go_ret
   exact ⟨by simp [oj, hb], hB⟩
  ·go_wp2_with fail
   refine (km a1 a2 a3 b1 b2 b3 _).mono ?_
   rintro e w3 ⟨rfl, hB3⟩
   go_wp2_with fail
   go_ret
   exact ⟨by simp [oj, ha, hb], aj hB hB3⟩
theorem nh (a1 a2 a3 b1 b2 b3 : Int) (w : World) :
  Calls Tryz.prog 85 #[.agg #[.int .i64 a1, .int .i64 a2, .int .i64 a3], .agg #[.int .i64 b1, .int .i64 b2, .int .i64 b3]] w fun e w' => e = .returned (.agg #[.int .i64 (crI (ay a1 a2 a3 && ay b1 b2 b3) a2 a3 b2 b3), .int .i64 (crI (ay a1 a2 a3 && ay b1 b2 b3) a3 a1 b3 b1), .int .i64 (crI (ay a1 a2 a3 && ay b1 b2 b3) a1 a2 b1 b2)]) ∧ Below w.heap.size w w' := by
 go_enter Tryz.func85, Tryz.ntmps85
 go_wp2_with fail
 refine (bF a1 a2 a3 _).mono ?_
 rintro e w1 ⟨rfl, hB1⟩
 have hB : Below w.heap.size w w1 := aj (dp _ _ _ _) hB1
 have hs : w.heap.size + 3 ≤ w1.heap.size := by have := hB1.size; simpa [Nat.add_assoc] using this
 have va : aF w1 w.heap.size a1 a2 a3 := (((by simpa using aE w a1 a2 a3 _ : aF _ w.heap.size a1 a2 a3).alloc (by simp) _).alloc (by simp; omega) _).kept (by simp; omega) hB1
 have vb : aF w1 (w.heap.size + 1) b1 b2 b3 := ((by simpa using aE (w.alloc _) b1 b2 b3 _ : aF _ (w.heap.size + 1) b1 b2 b3).alloc (by simp) _).kept (by simp) hB1
 have vr : aF w1 (w.heap.size + 1 + 1) 0 0 0 := (by simpa using aE ((w.alloc _).alloc _) 0 0 0 _ : aF _ (w.heap.size + 1 + 1) 0 0 0).kept (by simp) hB1
 have fr : dn w1 (w.heap.size + 1 + 1) := (by simpa using cq ((w.alloc _).alloc _) 0 0 0 _ : dn _ (w.heap.size + 1 + 1)).kept (by simp) hB1
 clear hB1
 have hva := va
 obtain ⟨ca0, ca1, ca2⟩ := va
 have hvb := vb
 obtain ⟨cb0, cb1, cb2⟩ := vb
 have hvr := vr
 have hfr := fr
 obtain ⟨cr0, cr1, cr2⟩ := vr
 obtain ⟨fr0, fr1, fr2⟩ := fr
 cases ha : ay a1 a2 a3
 ·go_wp2_with fail
  exact bodyPost_ret (v := .agg #[.int .i64 0, .int .i64 0, .int .i64 0]) (by simp [results, Tryz.results85, go_sem, cr0, cr1, cr2]) rfl ⟨by simp [crI, ha], aU hB (by omega) _ _ _⟩
 ·go_wp2_with fail
  refine (bF b1 b2 b3 _).mono ?_
  rintro e w2 ⟨rfl, hB2⟩
  have va := hva.kept (by omega) hB2
  have vb := hvb.kept (by omega) hB2
  have vr := hvr.kept (by omega) hB2
  have fr := hfr.kept (by omega) hB2
  replace hs : w.heap.size + 3 ≤ w2.heap.size := by have := hB2.size; omega
  replace hB : Below w.heap.size w w2 := aj hB hB2
  clear hva ca0 ca1 ca2 hvb cb0 cb1 cb2 hvr hfr cr0 cr1 cr2 fr0 fr1 fr2
  clear hB2
  have hva := va
  obtain ⟨ca0, ca1, ca2⟩ := va
  have hvb := vb
  obtain ⟨cb0, cb1, cb2⟩ := vb
  have hvr := vr
  have hfr := fr
  obtain ⟨cr0, cr1, cr2⟩ := vr
  obtain ⟨fr0, fr1, fr2⟩ := fr
  cases hb : ay b1 b2 b3
  ·go_wp2_with fail
   exact bodyPost_ret (v := .agg #[.int .i64 0, .int .i64 0, .int .i64 0]) (by simp [results, Tryz.results85, go_sem, cr0, cr1, cr2]) rfl ⟨by simp [crI, hb], aU hB (by omega) _ _ _⟩
  ·go_wp2_with fail
   exact bodyPost_ret (v := .agg #[.int .i64 (crW a2 a3 b2 b3), .int .i64 (crW a3 a1 b3 b1), .int .i64 (crW a1 a2 b1 b2)]) (by simp [results, Tryz.results85, go_sem, cr0, cr1, cr2, crW]) rfl ⟨by simp [crI, ha, hb], aU hB (by omega) _ _ _⟩
theorem jr (a1 a2 a3 b1 b2 b3 : Int) (w : World) :
  Calls Tryz.prog 98 #[.agg #[.int .i64 a1, .int .i64 a2, .int .i64 a3], .agg #[.int .i64 b1, .int .i64 b2, .int .i64 b3]] w fun e w' => e = .returned (.agg #[.int .i64 (crW a2 a3 b2 b3), .int .i64 (crW a3 a1 b3 b1), .int .i64 (crW a1 a2 b1 b2)]) ∧ Below w.heap.size w w' := by
 go_enter Tryz.func98, Tryz.ntmps98
 go_wp2
 exact bodyPost_ret (v := .agg #[.int .i64 (crW a2 a3 b2 b3), .int .i64 (crW a3 a1 b3 b1), .int .i64 (crW a1 a2 b1 b2)]) (by simp [results, Tryz.results98, go_sem, crW]) rfl ⟨rfl, dp _ _ _ _⟩
end
section
open Go.RowKit Go.Sort
theorem ru (a1 a2 a3 b1 b2 b3 c1 c2 c3 : Int) (w : World) :
  Calls Tryz.prog 134 #[.agg #[.int .i64 a1, .int .i64 a2, .int .i64 a3], .agg #[.int .i64 b1, .int .i64 b2, .int .i64 b3], .agg #[.int .i64 c1, .int .i64 c2, .int .i64 c3]] w fun e w' => e = .returned (.int .i64 (mI a1 a2 a3 b1 b2 b3 c1 c2 c3)) ∧ Below w.heap.size w w' := by
 go_enter Tryz.func134, Tryz.ntmps134
 go_wp2_with fail
 refine (bF a1 a2 a3 _).mono ?_
 rintro e w1 ⟨rfl, hB1⟩
 have hB : Below w.heap.size w w1 := aj (dp _ _ _ _) hB1
 have hs : w.heap.size + 3 ≤ w1.heap.size := by have := hB1.size; simpa [Nat.add_assoc] using this
 have va : aF w1 w.heap.size a1 a2 a3 := (((by simpa using aE w a1 a2 a3 _ : aF _ w.heap.size a1 a2 a3).alloc (by simp) _).alloc (by simp; omega) _).kept (by simp; omega) hB1
 have vb : aF w1 (w.heap.size + 1) b1 b2 b3 := ((by simpa using aE (w.alloc _) b1 b2 b3 _ : aF _ (w.heap.size + 1) b1 b2 b3).alloc (by simp) _).kept (by simp) hB1
 have vc : aF w1 (w.heap.size + 1 + 1) c1 c2 c3 := (by simpa using aE ((w.alloc _).alloc _) c1 c2 c3 _ : aF _ (w.heap.size + 1 + 1) c1 c2 c3).kept (by simp) hB1
 clear hB1
 have hva := va
 obtain ⟨ca0, ca1, ca2⟩ := va
 have hvb := vb
 obtain ⟨cb0, cb1, cb2⟩ := vb
 have hvc := vc
 obtain ⟨cc0, cc1, cc2⟩ := vc
 cases ha : ay a1 a2 a3
 ·go_wp2_with fail
  go_ret
  exact ⟨by simp [mI, ha], hB⟩
 ·go_wp2_with fail
  refine (bF b1 b2 b3 _).mono ?_
  rintro e w2 ⟨rfl, hB2⟩
  have va := hva.kept (by omega) hB2
  have vb := hvb.kept (by omega) hB2
  have vc := hvc.kept (by omega) hB2
  replace hs : w.heap.size + 3 ≤ w2.heap.size := by have := hB2.size; omega
  replace hB : Below w.heap.size w w2 := aj hB hB2
  clear hva ca0 ca1 ca2 hvb cb0 cb1 cb2 hvc cc0 cc1 cc2
  clear hB2
  have hva := va
  obtain ⟨ca0, ca1, ca2⟩ := va
  have hvb := vb
  obtain ⟨cb0, cb1, cb2⟩ := vb
  have hvc := vc
  obtain ⟨cc0, cc1, cc2⟩ := vc
  cases hb : ay b1 b2 b3
  ·go_wp2_with fail
   go_ret
   exact ⟨by simp [mI, hb], hB⟩
  ·go_wp2_with fail
   refine (bF c1 c2 c3 _).mono ?_
   rintro e w3 ⟨rfl, hB3⟩
   have va := hva.kept (by omega) hB3
   have vb := hvb.kept (by omega) hB3
   have vc := hvc.kept (by omega) hB3
   replace hs : w.heap.size + 3 ≤ w3.heap.size := by have := hB3.size; omega
   replace hB : Below w.heap.size w w3 := aj hB hB3
   clear hva ca0 ca1 ca2 hvb cb0 cb1 cb2 hvc cc0 cc1 cc2
   clear hB3
   have hva := va
   obtain ⟨ca0, ca1, ca2⟩ := va
   have hvb := vb
   obtain ⟨cb0, cb1, cb2⟩ := vb
   have hvc := vc
   obtain ⟨cc0, cc1, cc2⟩ := vc
   cases hc : ay c1 c2 c3
   ·go_wp2_with fail
    go_ret
    exact ⟨by simp [mI, hc], hB⟩
   ·go_wp2_with fail
    clear hva hvb hvc
    have HD := yz (show mI a1 a2 a3 b1 b2 b3 c1 c2 c3 = bt (crW a2 a3 b2 b3) (crW a3 a1 b3 b1) (crW a1 a2 b1 b2) c1 c2 c3 by simp [mI, ha, hb, hc])
    have ka0 := cell_regrown ca0
    have ka1 := cell_regrown ca1
    have ka2 := cell_regrown ca2
    have kb0 := cell_regrown cb0
    have kb1 := cell_regrown cb1
    have kb2 := cell_regrown cb2
    have kc0 := cell_regrown cc0
    have kc1 := cell_regrown cc1
    have kc2 := cell_regrown cc2
    refine wp_region_quiet_below (by kernel_rfl) (by kernel_rfl) ?_
    repeat (quiet_step (first | exact Calls.regrown_of (nh a1 a2 a3 b1 b2 b3 _) | exact Calls.regrown_of (km _ _ _ c1 c2 c3 _)))
    refine wpQuiet_nil ?_
    intro _ hw'
    obtain ⟨⟨dq, osq⟩, hw''⟩ := hw'
    subst hw''
    clear ca0 ka0 ca1 ka1 ca2 ka2 cb0 kb0 cb1 kb1 cb2 kb2 cc0 kc0 cc1 kc1 cc2 kc2
    go_wp2
    go_ret
    exact ⟨by rw [yy HD]; simp [crI], aj hB (below_regrown w3 dq osq)⟩
theorem mw (x y z : Int) (w : World) :
  Calls Tryz.prog 137 #[.agg #[.int .i64 x, .int .i64 y, .int .i64 z]] w fun e w' => e = .returned (.int .i64 (bt x y z x y z)) ∧ Below w.heap.size w w' := by
 go_enter Tryz.func137, Tryz.ntmps137
 go_wp2_with fail
 refine (km x y z x y z _).mono ?_
 rintro e w1 ⟨rfl, hB1⟩
 have hB : Below w.heap.size w w1 := aj (an _ _) hB1
 go_wp2_with fail
 go_ret
 exact ⟨rfl, hB⟩
theorem gj (x y z : Int) (w : World) :
  Calls Tryz.prog 62 #[.agg #[.int .i64 x, .int .i64 y, .int .i64 z]] w fun e w' => e = .returned (.bool (bO x y z)) ∧ Below w.heap.size w w' := by
 go_enter Tryz.func62, Tryz.ntmps62
 go_wp2_with fail
 refine (bF x y z _).mono ?_
 rintro e w1 ⟨rfl, hB1⟩
 have hB : Below w.heap.size w w1 := aj (an _ _) hB1
 have va : aF w1 w.heap.size x y z := (aE w x y z _).kept (by simp) hB1
 clear hB1
 obtain ⟨ca0, ca1, ca2⟩ := va
 cases ha : ay x y z
 ·go_wp2_with fail
  go_ret
  exact ⟨by simp [bO, ha], hB⟩
 ·go_wp2_with fail
  refine (jb 1800 x y z _ (by omega) (by omega)).mono ?_
  rintro e w2 ⟨rfl, hB2⟩
  replace hB := aj hB hB2
  go_wp2_with fail
  go_ret
  exact ⟨by simp [bO, ha], hB⟩
theorem ee (x y z : Int) (w : World) :
  Calls Tryz.prog 119 #[.agg #[.int .i64 x, .int .i64 y, .int .i64 z]] w fun e w' => e = .returned (.bool (aL x y z)) ∧ Below w.heap.size w w' := by
 go_enter Tryz.func119, Tryz.ntmps119
 go_wp2_with fail
 refine (bF x y z _).mono ?_
 rintro e w1 ⟨rfl, hB1⟩
 have hB : Below w.heap.size w w1 := aj (an _ _) hB1
 have va : aF w1 w.heap.size x y z := (aE w x y z _).kept (by simp) hB1
 clear hB1
 obtain ⟨ca0, ca1, ca2⟩ := va
 cases ha : ay x y z
 ·go_wp2_with fail
  go_ret
  exact ⟨by simp [aL, ha], hB⟩
 ·go_wp2_with fail
  refine (jb 10 x y z _ (by omega) (by omega)).mono ?_
  rintro e w2 ⟨rfl, hB2⟩
  replace hB := aj hB hB2
  go_wp2_with fail
  go_ret
  exact ⟨by simp [aL, ha], hB⟩
theorem mo (n : Int) (w : World) :
  Calls Tryz.prog 135 #[.int .i64 n] w fun e w' => e = .returned (.int .i64 (kV n)) ∧ w' = w := by
 by_cases h : n < 0
 ·have HS := yz (show kV n = wrap64 (wrap64 (-n) * n) by unfold kV; rw [if_pos h])
  go_enter Tryz.func135, Tryz.ntmps135
  go_wp2
  go_ret
  exact ⟨by rw [yy HS]; rfl, rfl⟩
 ·have HS := yz (show kV n = wrap64 (n * n) by unfold kV; rw [if_neg h])
  go_enter Tryz.func135, Tryz.ntmps135
  go_wp2
  go_ret
  exact ⟨by rw [yy HS]; rfl, rfl⟩
theorem jZ (a b : Int) (w : World) :
  Calls Tryz.prog 133 #[.int .i64 a, .int .i64 b] w fun e w' => e = .returned (.int .i64 (eS a b)) ∧ w' = w := by
 by_cases h : a < b
 ·have HS := yz (show eS a b = -1 by unfold eS; rw [if_pos h])
  go_enter Tryz.func133, Tryz.ntmps133
  go_wp2
  go_ret
  exact ⟨by rw [yy HS]; rfl, rfl⟩
 ·by_cases h2 : b < a
  ·have HS := yz (show eS a b = 1 by unfold eS; rw [if_neg h, if_pos h2])
   go_enter Tryz.func133, Tryz.ntmps133
   go_wp2
   go_ret
   exact ⟨by rw [yy HS]; rfl, rfl⟩
  ·have HS := yz (show eS a b = 0 by unfold eS; rw [if_neg h, if_neg h2])
   go_enter Tryz.func133, Tryz.ntmps133
   go_wp2
   go_ret
   exact ⟨by rw [yy HS]; rfl, rfl⟩
theorem kC (a1 a2 a3 b1 b2 b3 : Int) (w : World) :
  Calls Tryz.prog 136 #[.func (.func 137) #[.agg #[.int .i64 a1, .int .i64 a2, .int .i64 a3]] #[], .func (.func 137) #[.agg #[.int .i64 b1, .int .i64 b2, .int .i64 b3]] #[]] w fun e w' => e = .returned (.int .i64 (wrap64 (bt a1 a2 a3 a1 a2 a3 * bt b1 b2 b3 b1 b2 b3))) ∧ Below w.heap.size w w' := by
 go_enter Tryz.func136, Tryz.ntmps136
 go_wp2_with fail
 refine (mw a1 a2 a3 _).mono ?_
 rintro e w1 ⟨rfl, hB1⟩
 go_wp2_with fail
 refine (mw b1 b2 b3 _).mono ?_
 rintro e w2 ⟨rfl, hB2⟩
 go_wp2_with fail
 go_ret
 exact ⟨rfl, aj hB1 hB2⟩
theorem eh {x y z : Int} (h : bO x y z = true) : ay x y z = true ∧ aK 1800 x y z = true := by simpa [bO] using h
theorem dK {x y z : Int} (h : aL x y z = true) : ay x y z = true ∧ aK 10 x y z = true := by simpa [aL] using h
theorem vj {a1 a2 a3 b1 b2 b3 c1 c2 c3 d1 d2 d3 : Int} (ha : bO a1 a2 a3 = true) (hb : bO b1 b2 b3 = true) (hc : aL c1 c2 c3 = true) (hd : aL d1 d2 d3 = true) :
  jQ a1 a2 a3 b1 b2 b3 c1 c2 c3 d1 d2 d3 = eS (wrap64 (kV (oj a1 a2 a3 b1 b2 b3) * wrap64 (bt c1 c2 c3 c1 c2 c3 * bt d1 d2 d3 d1 d2 d3))) (wrap64 (kV (oj c1 c2 c3 d1 d2 d3) * wrap64 (bt a1 a2 a3 a1 a2 a3 * bt b1 b2 b3 b1 b2 b3))) := by
 have h := tr (eh ha).2 (eh hb).2 (dK hc).2 (dK hd).2
 unfold jQ oj
 rw [(eh ha).1, (eh hb).1, (dK hc).1, (dK hd).1, ha, hb, hc, hd, if_pos (by rfl), if_pos (by rfl), if_pos (by rfl), h.1, h.2]
theorem Calls.regrown_same {P : Program} {f : FuncId} {args : Array Value} {w : World} {d : Nat} {os : Array Obj} {v : Value}
  (h : Calls P f args (grow (redrawn w d) os) fun e w' => e = .returned v ∧ w' = grow (redrawn w d) os) : Calls P f args (grow (redrawn w d) os) fun e w'' => e = .returned v ∧ ∃ p : Regrown, w'' = grow (redrawn w p.d) p.os :=
 h.mono fun _ _ ⟨he, hm⟩ => ⟨he, ⟨d, os⟩, hm⟩
theorem qA (a1 a2 a3 b1 b2 b3 c1 c2 c3 d1 d2 d3 : Int) (w : World) :
  Calls Tryz.prog 132 #[.agg #[.int .i64 a1, .int .i64 a2, .int .i64 a3], .agg #[.int .i64 b1, .int .i64 b2, .int .i64 b3], .agg #[.int .i64 c1, .int .i64 c2, .int .i64 c3], .agg #[.int .i64 d1, .int .i64 d2, .int .i64 d3]] w fun e w' => e = .returned (.int .i64 (jQ a1 a2 a3 b1 b2 b3 c1 c2 c3 d1 d2 d3)) ∧ Below w.heap.size w w' := by
 go_enter Tryz.func132, Tryz.ntmps132
 go_wp2_with fail
 refine (gj a1 a2 a3 _).mono ?_
 rintro e w1 ⟨rfl, hB1⟩
 have hB : Below w.heap.size w w1 := aj (tl _ _ _ _ _) hB1
 have hs : w.heap.size + 4 ≤ w1.heap.size := by have := hB1.size; simpa [Nat.add_assoc] using this
 have va : aF w1 w.heap.size a1 a2 a3 := ((((by simpa using aE w a1 a2 a3 _ : aF _ w.heap.size a1 a2 a3).alloc (by simp <;> omega) _).alloc (by simp <;> omega) _).alloc (by simp <;> omega) _).kept (by simp <;> omega) hB1
 have vb : aF w1 (w.heap.size + 1) b1 b2 b3 := (((by simpa using aE (w.alloc _) b1 b2 b3 _ : aF _ (w.heap.size + 1) b1 b2 b3).alloc (by simp <;> omega) _).alloc (by simp <;> omega) _).kept (by simp <;> omega) hB1
 have vc : aF w1 (w.heap.size + 1 + 1) c1 c2 c3 := ((by simpa using aE ((w.alloc _).alloc _) c1 c2 c3 _ : aF _ (w.heap.size + 1 + 1) c1 c2 c3).alloc (by simp <;> omega) _).kept (by simp <;> omega) hB1
 have vd : aF w1 (w.heap.size + 1 + 1 + 1) d1 d2 d3 := (by simpa using aE (((w.alloc _).alloc _).alloc _) d1 d2 d3 _ : aF _ (w.heap.size + 1 + 1 + 1) d1 d2 d3).kept (by simp <;> omega) hB1
 clear hB1
 have hva := va
 obtain ⟨ca0, ca1, ca2⟩ := va
 have hvb := vb
 obtain ⟨cb0, cb1, cb2⟩ := vb
 have hvc := vc
 obtain ⟨cc0, cc1, cc2⟩ := vc
 have hvd := vd
 obtain ⟨cd0, cd1, cd2⟩ := vd
 cases ha : bO a1 a2 a3
 ·go_wp2_with fail
  go_ret
  exact ⟨by simp [jQ, ha], hB⟩
 ·go_wp2_with fail
  refine (gj b1 b2 b3 _).mono ?_
  rintro e w2 ⟨rfl, hB2⟩
  have va := hva.kept (by omega) hB2
  have vb := hvb.kept (by omega) hB2
  have vc := hvc.kept (by omega) hB2
  have vd := hvd.kept (by omega) hB2
  replace hs : w.heap.size + 4 ≤ w2.heap.size := by have := hB2.size; omega
  replace hB : Below w.heap.size w w2 := aj hB hB2
  clear hva ca0 ca1 ca2 hvb cb0 cb1 cb2 hvc cc0 cc1 cc2 hvd cd0 cd1 cd2
  clear hB2
  have hva := va
  obtain ⟨ca0, ca1, ca2⟩ := va
  have hvb := vb
  obtain ⟨cb0, cb1, cb2⟩ := vb
  have hvc := vc
  obtain ⟨cc0, cc1, cc2⟩ := vc
  have hvd := vd
  obtain ⟨cd0, cd1, cd2⟩ := vd
  cases hb : bO b1 b2 b3
  ·go_wp2_with fail
   go_ret
   exact ⟨by simp [jQ, hb], hB⟩
  ·go_wp2_with fail
   refine (ee c1 c2 c3 _).mono ?_
   rintro e w3 ⟨rfl, hB3⟩
   have va := hva.kept (by omega) hB3
   have vb := hvb.kept (by omega) hB3
   have vc := hvc.kept (by omega) hB3
   have vd := hvd.kept (by omega) hB3
   replace hs : w.heap.size + 4 ≤ w3.heap.size := by have := hB3.size; omega
   replace hB : Below w.heap.size w w3 := aj hB hB3
   clear hva ca0 ca1 ca2 hvb cb0 cb1 cb2 hvc cc0 cc1 cc2 hvd cd0 cd1 cd2
   clear hB3
   have hva := va
   obtain ⟨ca0, ca1, ca2⟩ := va
   have hvb := vb
   obtain ⟨cb0, cb1, cb2⟩ := vb
   have hvc := vc
   obtain ⟨cc0, cc1, cc2⟩ := vc
   have hvd := vd
   obtain ⟨cd0, cd1, cd2⟩ := vd
   cases hc : aL c1 c2 c3
   ·go_wp2_with fail
    go_ret
    exact ⟨by simp [jQ, hc], hB⟩
   ·go_wp2_with fail
    refine (ee d1 d2 d3 _).mono ?_
    rintro e w4 ⟨rfl, hB4⟩
    have va := hva.kept (by omega) hB4
    have vb := hvb.kept (by omega) hB4
    have vc := hvc.kept (by omega) hB4
    have vd := hvd.kept (by omega) hB4
    replace hs : w.heap.size + 4 ≤ w4.heap.size := by have := hB4.size; omega
    replace hB : Below w.heap.size w w4 := aj hB hB4
    clear hva ca0 ca1 ca2 hvb cb0 cb1 cb2 hvc cc0 cc1 cc2 hvd cd0 cd1 cd2
    clear hB4
    have hva := va
    obtain ⟨ca0, ca1, ca2⟩ := va
    have hvb := vb
    obtain ⟨cb0, cb1, cb2⟩ := vb
    have hvc := vc
    obtain ⟨cc0, cc1, cc2⟩ := vc
    have hvd := vd
    obtain ⟨cd0, cd1, cd2⟩ := vd
    cases hd : aL d1 d2 d3
    ·go_wp2_with fail
     go_ret
     exact ⟨by simp [jQ, hd], hB⟩
    ·go_wp2_with fail
     have HD := yz (vj ha hb hc hd)
     have ka0 := cell_regrown ca0
     have ka1 := cell_regrown ca1
     have ka2 := cell_regrown ca2
     have kb0 := cell_regrown cb0
     have kb1 := cell_regrown cb1
     have kb2 := cell_regrown cb2
     have kc0 := cell_regrown cc0
     have kc1 := cell_regrown cc1
     have kc2 := cell_regrown cc2
     have kd0 := cell_regrown cd0
     have kd1 := cell_regrown cd1
     have kd2 := cell_regrown cd2
     refine wp_region_quiet_below (by kernel_rfl) (by kernel_rfl) ?_
     repeat (quiet_step (first | exact Calls.regrown_of (ol _ _ _ _ _ _ _) | exact Calls.regrown_same (mo _ _) | exact Calls.regrown_of (kC _ _ _ _ _ _ _)))
     refine wpQuiet_nil ?_
     intro _ hw'
     obtain ⟨⟨dq, osq⟩, hw''⟩ := hw'
     subst hw''
     have hb' := below_regrown w4 dq osq
     replace hB := aj hB hb'
     have va := hva.kept (by omega) hb'
     have vb := hvb.kept (by omega) hb'
     have vc := hvc.kept (by omega) hb'
     have vd := hvd.kept (by omega) hb'
     clear ca0 ka0 ca1 ka1 ca2 ka2 cb0 kb0 cb1 kb1 cb2 kb2 cc0 kc0 cc1 kc1 cc2 kc2 cd0 kd0 cd1 kd1 cd2 kd2
     generalize grow (redrawn w4 dq) osq = w5 at hB hb' va vb vc vd ⊢
     obtain ⟨ca0, ca1, ca2⟩ := va
     obtain ⟨cb0, cb1, cb2⟩ := vb
     obtain ⟨cc0, cc1, cc2⟩ := vc
     obtain ⟨cd0, cd1, cd2⟩ := vd
     clear hb' hva hvb hvc hvd
     go_wp2_with fail
     have ka0 := cell_regrown ca0
     have ka1 := cell_regrown ca1
     have ka2 := cell_regrown ca2
     have kb0 := cell_regrown cb0
     have kb1 := cell_regrown cb1
     have kb2 := cell_regrown cb2
     have kc0 := cell_regrown cc0
     have kc1 := cell_regrown cc1
     have kc2 := cell_regrown cc2
     have kd0 := cell_regrown cd0
     have kd1 := cell_regrown cd1
     have kd2 := cell_regrown cd2
     refine wp_region_quiet_below (by kernel_rfl) (by kernel_rfl) ?_
     repeat (quiet_step (first | exact Calls.regrown_of (ol _ _ _ _ _ _ _) | exact Calls.regrown_same (mo _ _) | exact Calls.regrown_of (kC _ _ _ _ _ _ _)))
     refine wpQuiet_nil ?_
     intro _ hw'
     obtain ⟨⟨dq, osq⟩, hw''⟩ := hw'
     subst hw''
     replace hB := aj hB (below_regrown w5 dq osq)
     clear ca0 ka0 ca1 ka1 ca2 ka2 cb0 kb0 cb1 kb1 cb2 kb2 cc0 kc0 cc1 kc1 cc2 kc2 cd0 kd0 cd1 kd1 cd2 kd2
     go_wp2_with fail
     refine (jZ _ _ _).mono ?_
     rintro e w7 ⟨rfl, rfl⟩
     go_wp2_with fail
     go_ret
     exact ⟨by rw [yy HD]; rfl, hB⟩
theorem aF.in {w : World} {b : Nat} {x y z : Int} (h : aF w b x y z) : b < w.heap.size := World.block_lt_of_cell? w _ h.1
theorem dl (n : Int) (w : World) :
  Calls Tryz.prog 127 #[.int .i64 n] w fun e w' => e = .returned (.int .i64 (sgn n)) ∧ w' = w := by
 by_cases h : n < 0
 ·have HS := yz (show sgn n = -1 by unfold sgn; rw [if_pos h])
  go_enter Tryz.func127, Tryz.ntmps127
  go_wp2
  go_ret
  exact ⟨by rw [yy HS]; rfl, rfl⟩
 ·by_cases h2 : 0 < n
  ·have HS := yz (show sgn n = 1 by unfold sgn; rw [if_neg h, if_pos h2])
   go_enter Tryz.func127, Tryz.ntmps127
   go_wp2
   go_ret
   exact ⟨by rw [yy HS]; rfl, rfl⟩
  ·have HS := yz (show sgn n = 0 by unfold sgn; rw [if_neg h, if_neg h2])
   go_enter Tryz.func127, Tryz.ntmps127
   go_wp2
   go_ret
   exact ⟨by rw [yy HS]; rfl, rfl⟩
theorem qI (a1 a2 a3 b1 b2 b3 c1 c2 c3 d1 d2 d3 : Int) (w : World) :
  Calls Tryz.prog 126 #[.agg #[.int .i64 a1, .int .i64 a2, .int .i64 a3], .agg #[.int .i64 b1, .int .i64 b2, .int .i64 b3], .agg #[.int .i64 c1, .int .i64 c2, .int .i64 c3], .agg #[.int .i64 d1, .int .i64 d2, .int .i64 d3]] w fun e w' => e = .returned (.int .i64 (lq (bt a1 a2 a3 b1 b2 b3) (bt c1 c2 c3 d1 d2 d3) (wrap64 (wrap64 (bt a1 a2 a3 b1 b2 b3 * bt a1 a2 a3 b1 b2 b3) * wrap64 (bt c1 c2 c3 c1 c2 c3 * bt d1 d2 d3 d1 d2 d3))) (wrap64 (wrap64 (bt c1 c2 c3 d1 d2 d3 * bt c1 c2 c3 d1 d2 d3) * wrap64 (bt a1 a2 a3 a1 a2 a3 * bt b1 b2 b3 b1 b2 b3))))) ∧ Below w.heap.size w w' := by
 go_enter Tryz.func126, Tryz.ntmps126
 go_wp2_with fail
 have va : aF ((((w.alloc (.cells #[.int .i64 a1, .int .i64 a2, .int .i64 a3] 78)).alloc (.cells #[.int .i64 b1, .int .i64 b2, .int .i64 b3] 78)).alloc (.cells #[.int .i64 c1, .int .i64 c2, .int .i64 c3] 78)).alloc (.cells #[.int .i64 d1, .int .i64 d2, .int .i64 d3] 78)) w.heap.size a1 a2 a3 := ((((by simpa using aE w a1 a2 a3 78 : aF (w.alloc (.cells #[.int .i64 a1, .int .i64 a2, .int .i64 a3] 78)) w.heap.size a1 a2 a3).alloc (by simp <;> omega) _).alloc (by simp <;> omega) _).alloc (by simp <;> omega) _)
 have vb : aF ((((w.alloc (.cells #[.int .i64 a1, .int .i64 a2, .int .i64 a3] 78)).alloc (.cells #[.int .i64 b1, .int .i64 b2, .int .i64 b3] 78)).alloc (.cells #[.int .i64 c1, .int .i64 c2, .int .i64 c3] 78)).alloc (.cells #[.int .i64 d1, .int .i64 d2, .int .i64 d3] 78)) (w.heap.size + 1) b1 b2 b3 := (((by simpa using aE (w.alloc (.cells #[.int .i64 a1, .int .i64 a2, .int .i64 a3] 78)) b1 b2 b3 78 : aF ((w.alloc (.cells #[.int .i64 a1, .int .i64 a2, .int .i64 a3] 78)).alloc (.cells #[.int .i64 b1, .int .i64 b2, .int .i64 b3] 78)) (w.heap.size + 1) b1 b2 b3).alloc (by simp <;> omega) _).alloc (by simp <;> omega) _)
 have vc : aF ((((w.alloc (.cells #[.int .i64 a1, .int .i64 a2, .int .i64 a3] 78)).alloc (.cells #[.int .i64 b1, .int .i64 b2, .int .i64 b3] 78)).alloc (.cells #[.int .i64 c1, .int .i64 c2, .int .i64 c3] 78)).alloc (.cells #[.int .i64 d1, .int .i64 d2, .int .i64 d3] 78)) (w.heap.size + 1 + 1) c1 c2 c3 := ((by simpa using aE ((w.alloc (.cells #[.int .i64 a1, .int .i64 a2, .int .i64 a3] 78)).alloc (.cells #[.int .i64 b1, .int .i64 b2, .int .i64 b3] 78)) c1 c2 c3 78 : aF (((w.alloc (.cells #[.int .i64 a1, .int .i64 a2, .int .i64 a3] 78)).alloc (.cells #[.int .i64 b1, .int .i64 b2, .int .i64 b3] 78)).alloc (.cells #[.int .i64 c1, .int .i64 c2, .int .i64 c3] 78)) (w.heap.size + 1 + 1) c1 c2 c3).alloc (by simp <;> omega) _)
 have vd : aF ((((w.alloc (.cells #[.int .i64 a1, .int .i64 a2, .int .i64 a3] 78)).alloc (.cells #[.int .i64 b1, .int .i64 b2, .int .i64 b3] 78)).alloc (.cells #[.int .i64 c1, .int .i64 c2, .int .i64 c3] 78)).alloc (.cells #[.int .i64 d1, .int .i64 d2, .int .i64 d3] 78)) (w.heap.size + 1 + 1 + 1) d1 d2 d3 := (by simpa using aE (((w.alloc (.cells #[.int .i64 a1, .int .i64 a2, .int .i64 a3] 78)).alloc (.cells #[.int .i64 b1, .int .i64 b2, .int .i64 b3] 78)).alloc (.cells #[.int .i64 c1, .int .i64 c2, .int .i64 c3] 78)) d1 d2 d3 78 : aF ((((w.alloc (.cells #[.int .i64 a1, .int .i64 a2, .int .i64 a3] 78)).alloc (.cells #[.int .i64 b1, .int .i64 b2, .int .i64 b3] 78)).alloc (.cells #[.int .i64 c1, .int .i64 c2, .int .i64 c3] 78)).alloc (.cells #[.int .i64 d1, .int .i64 d2, .int .i64 d3] 78)) (w.heap.size + 1 + 1 + 1) d1 d2 d3)
 have hB : Below w.heap.size w ((((w.alloc (.cells #[.int .i64 a1, .int .i64 a2, .int .i64 a3] 78)).alloc (.cells #[.int .i64 b1, .int .i64 b2, .int .i64 b3] 78)).alloc (.cells #[.int .i64 c1, .int .i64 c2, .int .i64 c3] 78)).alloc (.cells #[.int .i64 d1, .int .i64 d2, .int .i64 d3] 78)) := tl _ _ _ _ _
 generalize ((((w.alloc (.cells #[.int .i64 a1, .int .i64 a2, .int .i64 a3] 78)).alloc (.cells #[.int .i64 b1, .int .i64 b2, .int .i64 b3] 78)).alloc (.cells #[.int .i64 c1, .int .i64 c2, .int .i64 c3] 78)).alloc (.cells #[.int .i64 d1, .int .i64 d2, .int .i64 d3] 78)) = w1 at va vb vc vd hB ⊢
 have ha := va
 have hb := vb
 have hc := vc
 have hd := vd
 obtain ⟨ca0, ca1, ca2⟩ := va
 obtain ⟨cb0, cb1, cb2⟩ := vb
 obtain ⟨cc0, cc1, cc2⟩ := vc
 obtain ⟨cd0, cd1, cd2⟩ := vd
 refine (eF a1 a2 a3 b1 b2 b3 _).mono ?_
 rintro e w2 ⟨rfl, hx⟩
 have va := ha.kept (aF.in ha) hx
 have vb := hb.kept (aF.in hb) hx
 have vc := hc.kept (aF.in hc) hx
 have vd := hd.kept (aF.in hd) hx
 replace hB := aj hB hx
 clear ca0 ca1 ca2 cb0 cb1 cb2 cc0 cc1 cc2 cd0 cd1 cd2 ha hb hc hd hx
 have ha := va
 have hb := vb
 have hc := vc
 have hd := vd
 obtain ⟨ca0, ca1, ca2⟩ := va
 obtain ⟨cb0, cb1, cb2⟩ := vb
 obtain ⟨cc0, cc1, cc2⟩ := vc
 obtain ⟨cd0, cd1, cd2⟩ := vd
 go_wp2_with fail
 refine (eF c1 c2 c3 d1 d2 d3 _).mono ?_
 rintro e w3 ⟨rfl, hx⟩
 have va := ha.kept (aF.in ha) hx
 have vb := hb.kept (aF.in hb) hx
 have vc := hc.kept (aF.in hc) hx
 have vd := hd.kept (aF.in hd) hx
 replace hB := aj hB hx
 clear ca0 ca1 ca2 cb0 cb1 cb2 cc0 cc1 cc2 cd0 cd1 cd2 ha hb hc hd hx
 have ha := va
 have hb := vb
 have hc := vc
 have hd := vd
 obtain ⟨ca0, ca1, ca2⟩ := va
 obtain ⟨cb0, cb1, cb2⟩ := vb
 obtain ⟨cc0, cc1, cc2⟩ := vc
 obtain ⟨cd0, cd1, cd2⟩ := vd
 generalize hxe : bt a1 a2 a3 b1 b2 b3 = x
 generalize hye : bt c1 c2 c3 d1 d2 d3 = y
 have HX := yz hxe
 have HY := yz hye
 clear hxe hye
 go_wp2_with fail
 refine (dl x _).mono ?_
 rintro e w3 ⟨rfl, rfl⟩
 go_wp2_with fail
 refine (dl y _).mono ?_
 rintro e w3 ⟨rfl, rfl⟩
 by_cases hs : sgn x = sgn y
 ·have hse : (sgn x == sgn y) = true := by simp [hs]
  go_wp2_with fail
  have kc0 := cell_regrown cc0
  have kc1 := cell_regrown cc1
  have kc2 := cell_regrown cc2
  have kd0 := cell_regrown cd0
  have kd1 := cell_regrown cd1
  have kd2 := cell_regrown cd2
  refine wp_region_quiet_below (by kernel_rfl) (by kernel_rfl) ?_
  repeat (quiet_step (first | exact Calls.regrown_of (eF _ _ _ _ _ _ _) | fail))
  refine wpQuiet_nil ?_
  intro _ hw'
  obtain ⟨⟨dq, osq⟩, hw''⟩ := hw'
  subst hw''
  have hx := below_regrown w3 dq osq
  generalize grow (redrawn w3 dq) osq = w4 at hx ⊢
  clear kc0 kc1 kc2 kd0 kd1 kd2
  have va := ha.kept (aF.in ha) hx
  have vb := hb.kept (aF.in hb) hx
  have vc := hc.kept (aF.in hc) hx
  have vd := hd.kept (aF.in hd) hx
  replace hB := aj hB hx
  clear ca0 ca1 ca2 cb0 cb1 cb2 cc0 cc1 cc2 cd0 cd1 cd2 ha hb hc hd hx
  have ha := va
  have hb := vb
  have hc := vc
  have hd := vd
  obtain ⟨ca0, ca1, ca2⟩ := va
  obtain ⟨cb0, cb1, cb2⟩ := vb
  obtain ⟨cc0, cc1, cc2⟩ := vc
  obtain ⟨cd0, cd1, cd2⟩ := vd
  go_wp2_with fail
  have ka0 := cell_regrown ca0
  have ka1 := cell_regrown ca1
  have ka2 := cell_regrown ca2
  have kb0 := cell_regrown cb0
  have kb1 := cell_regrown cb1
  have kb2 := cell_regrown cb2
  refine wp_region_quiet_below (by kernel_rfl) (by kernel_rfl) ?_
  repeat (quiet_step (first | exact Calls.regrown_of (eF _ _ _ _ _ _ _) | fail))
  refine wpQuiet_nil ?_
  intro _ hw'
  obtain ⟨⟨dq, osq⟩, hw''⟩ := hw'
  subst hw''
  have hx := below_regrown w4 dq osq
  generalize grow (redrawn w4 dq) osq = w5 at hx ⊢
  clear ka0 ka1 ka2 kb0 kb1 kb2
  have va := ha.kept (aF.in ha) hx
  have vb := hb.kept (aF.in hb) hx
  have vc := hc.kept (aF.in hc) hx
  have vd := hd.kept (aF.in hd) hx
  replace hB := aj hB hx
  clear ca0 ca1 ca2 cb0 cb1 cb2 cc0 cc1 cc2 cd0 cd1 cd2 ha hb hc hd hx
  have ha := va
  have hb := vb
  have hc := vc
  have hd := vd
  obtain ⟨ca0, ca1, ca2⟩ := va
  obtain ⟨cb0, cb1, cb2⟩ := vb
  obtain ⟨cc0, cc1, cc2⟩ := vc
  obtain ⟨cd0, cd1, cd2⟩ := vd
  clear ha hb hc hd ca0 ca1 ca2 cb0 cb1 cb2 cc0 cc1 cc2 cd0 cd1 cd2
  simp only [Go.IntWalk.i64_left]
  generalize hpe : wrap64 (wrap64 (x * x) * wrap64 (bt c1 c2 c3 c1 c2 c3 * bt d1 d2 d3 d1 d2 d3)) = p
  generalize hqe : wrap64 (wrap64 (y * y) * wrap64 (bt a1 a2 a3 a1 a2 a3 * bt b1 b2 b3 b1 b2 b3)) = q
  have HP := yz hpe
  have HQ := yz hqe
  have HS := yz hs
  clear hpe hqe
  by_cases h1 : p < q
  ·have HE := yz (show lq x y p q = wrap64 (-sgn x) by unfold lq; rw [if_neg (by simp [hs]), if_pos h1])
   clear hs hse
   go_wp2_with fail
   refine (dl x _).mono ?_
   rintro e w5 ⟨rfl, rfl⟩
   go_wp2_with fail
   go_ret
   exact ⟨by rw [yy HX, yy HY, yy HP, yy HQ, yy HE]; rfl, hB⟩
  ·by_cases h2 : q < p
   ·have HE := yz (show lq x y p q = sgn x by unfold lq; rw [if_neg (by simp [hs]), if_neg h1, if_pos h2])
    clear hs hse
    go_wp2_with fail
    refine (dl x _).mono ?_
    rintro e w5 ⟨rfl, rfl⟩
    go_wp2_with fail
    go_ret
    exact ⟨by rw [yy HX, yy HY, yy HP, yy HQ, yy HE]; rfl, hB⟩
   ·have HE := yz (show lq x y p q = 0 by unfold lq; rw [if_neg (by simp [hs]), if_neg h1, if_neg h2])
    clear hs hse
    go_wp2_with fail
    go_ret
    exact ⟨by rw [yy HX, yy HY, yy HP, yy HQ, yy HE]; rfl, hB⟩
 ·have hse : (sgn x == sgn y) = false := by simp [hs]
  go_wp2_with fail
  refine (dl x _).mono ?_
  rintro e w3 ⟨rfl, rfl⟩
  go_wp2_with fail
  refine (dl y _).mono ?_
  rintro e w3 ⟨rfl, rfl⟩
  go_wp2_with fail
  refine (dl _ _).mono ?_
  rintro e w3 ⟨rfl, rfl⟩
  go_wp2_with fail
  go_ret
  exact ⟨by unfold lq; rw [yy HX, yy HY, if_pos hs]; rfl, hB⟩
theorem rM {p q r P Q : Int} (h1 : -P ≤ p ∧ p ≤ P) (h2 : -Q ≤ q ∧ q ≤ Q) (h3 : -Q ≤ r ∧ r ≤ Q) (k1 : P * P ≤ 9223372036854775807) (k3 : Q * Q ≤ 9223372036854775807) (k4 : (P * P) * (Q * Q) ≤ 9223372036854775807) :
  wrap64 (wrap64 (p * p) * wrap64 (q * r)) = p * p * (q * r) := by
 have m1 := bv h1 h1
 have m2 := bv h2 h3
 have m3 := bv m1 m2
 rw [ap (n := p * p) (by omega) (by omega), ap (n := q * r) (by omega) (by omega), ap (by omega) (by omega)]
theorem up {a1 a2 a3 b1 b2 b3 c1 c2 c3 d1 d2 d3 : Int} (ha : bO a1 a2 a3 = true) (hb : bO b1 b2 b3 = true) (hc : aL c1 c2 c3 = true) (hd : aL d1 d2 d3 = true) :
  jQ a1 a2 a3 b1 b2 b3 c1 c2 c3 d1 d2 d3 = lq (bt a1 a2 a3 b1 b2 b3) (bt c1 c2 c3 d1 d2 d3) (wrap64 (wrap64 (bt a1 a2 a3 b1 b2 b3 * bt a1 a2 a3 b1 b2 b3) * wrap64 (bt c1 c2 c3 c1 c2 c3 * bt d1 d2 d3 d1 d2 d3))) (wrap64 (wrap64 (bt c1 c2 c3 d1 d2 d3 * bt c1 c2 c3 d1 d2 d3) * wrap64 (bt a1 a2 a3 a1 a2 a3 * bt b1 b2 b3 b1 b2 b3))) := by
 have wa := (eh ha).2
 have wb := (eh hb).2
 have wc := (dK hc).2
 have wd := (dK hd).2
 have pa := mu (bh.1 (eh ha).1).2
 have pb := mu (bh.1 (eh hb).1).2
 have pc := mu (bh.1 (dK hc).1).2
 have pd := mu (bh.1 (dK hd).1).2
 unfold jQ
 rw [ha, hb, hc, hd, if_pos (by rfl)]
 rw [cg wa wb (by omega), cg wc wc (by omega), cg wd wd (by omega), cg wc wd (by omega), cg wa wa (by omega), cg wb wb (by omega)]
 have x1 := bU wa wb
 have x2 := bU wc wc
 have x3 := bU wd wd
 have x4 := bU wc wd
 have x5 := bU wa wa
 have x6 := bU wb wb
 rw [rM (P := 9720000) (Q := 300) (by omega) (by omega) (by omega) (by omega) (by omega) (by omega), rM (P := 300) (Q := 9720000) (by omega) (by omega) (by omega) (by omega) (by omega) (by omega)]
 exact (ts (Int.mul_pos pc pd) (Int.mul_pos pa pb)).symm
end
section
open Go.RowKit
theorem qc {a b : Int} (h : b ≠ 0) (hb : -1000000 ≤ b ∧ b ≤ 1000000) : wrap64 (a.tmod b) = a.tmod b ∧ -1000000 ≤ a.tmod b ∧ a.tmod b ≤ 1000000 := by
 have := pe a b h
 have h2 : -1000000 ≤ a.tmod b ∧ a.tmod b ≤ 1000000 := by omega
 exact ⟨ap (by omega) (by omega), h2⟩
theorem bR (w : World) (n : Nat) : Below w.heap.size w (w.drewN n) := ⟨rfl, rfl, rfl, Nat.le_refl _, fun _ _ => rfl⟩
theorem ea (a b : Int) (w : World) (ha : -1000000 ≤ a ∧ a ≤ 1000000) (hb : -1000000 ≤ b ∧ b ≤ 1000000) :
  Calls Tryz.prog 104 #[.int .i64 a, .int .i64 b] w fun e w' => e = .returned (.int .i64 ((Int.gcd a b : Nat) : Int)) ∧ ∃ n, w' = w.drewN n := by
 go_enter Tryz.func104, Tryz.ntmps104
 go_wp2
 go_loopw [0, 1] (fun u v wr => ∃ p q : Int, u = .int .i64 p ∧ v = .int .i64 q ∧ Hid (-1000000 ≤ p ∧ p ≤ 1000000) ∧ Hid (-1000000 ≤ q ∧ q ≤ 1000000) ∧ Hid (Int.gcd p q = Int.gcd a b) ∧ ∃ n, wr = w.drewN n) (fun _ v _ => (intOf v).natAbs)
 case atStart => exact ⟨a, b, rfl, rfl, yz ha, yz hb, yz rfl, 0, rfl⟩
 case round =>
  obtain ⟨p, q, rfl, rfl, hp, hq, hg, nd, rfl⟩ := hrel
  by_cases h0 : q = 0
  ·subst h0
   have HG := yz (pE p)
   by_cases hn : p < 0
   ·have HW : Hid (wrap64 (-p) = -p) := yz (by have := yy hp; exact ap (by omega) (by omega))
    have HR := yz (show ((Int.gcd a b : Nat) : Int) = -p by rw [← yy hg, yy HG, if_pos hn])
    go_wp2
    go_ret
    exact ⟨by rw [yy HR]; exact congrArg (fun x => Ending.returned (Value.int .i64 x)) (yy HW), nd, rfl⟩
   ·have HR := yz (show ((Int.gcd a b : Nat) : Int) = p by rw [← yy hg, yy HG, if_neg hn])
    go_wp2
    go_ret
    exact ⟨by rw [yy HR]; rfl, nd, rfl⟩
  ·have hz : (q == 0) = false := by simp [h0]
   have hr := qc (a := p) h0 (yy hq)
   have HL := yz (pe p q h0)
   have HS := yz (pD p q)
   obtain ⟨r, hre⟩ : ∃ r, p.tmod q = r := ⟨_, rfl⟩
   have hrw := hr.1
   have HRB := yz hr.2
   rw [hre] at hrw HRB HL HS
   clear hr
   go_wp2
   go_region
   go_wp2
   go_roundw
   case rel => exact ⟨q, r, rfl, rfl, hq, HRB, yz ((yy HS).trans (yy hg)), nd + 1, rfl⟩
   case measure => simp [intOf]; exact yy HL
theorem fg (a b : Int) (w : World) (ha : -1000000 ≤ a ∧ a ≤ 1000000) (hb : -1000000 ≤ b ∧ b ≤ 1000000) :
  Calls Tryz.prog 90 #[.int .i64 a, .int .i64 b] w fun e w' => e = .returned (.int .i64 ((Int.gcd a b : Nat) : Int)) ∧ ∃ n, w' = w.drewN n := by
 go_enter Tryz.func90, Tryz.ntmps90
 go_wp2
 go_loopw [0, 1] (fun u v wr => ∃ p q : Int, u = .int .i64 p ∧ v = .int .i64 q ∧ Hid (-1000000 ≤ p ∧ p ≤ 1000000) ∧ Hid (-1000000 ≤ q ∧ q ≤ 1000000) ∧ Hid (Int.gcd p q = Int.gcd a b) ∧ ∃ n, wr = w.drewN n) (fun _ v _ => (intOf v).natAbs)
 case atStart => exact ⟨a, b, rfl, rfl, yz ha, yz hb, yz rfl, 0, rfl⟩
 case round =>
  obtain ⟨p, q, rfl, rfl, hp, hq, hg, nd, rfl⟩ := hrel
  by_cases h0 : q = 0
  ·subst h0
   have HG := yz (pE p)
   by_cases hn : p < 0
   ·have HW : Hid (wrap64 (-p) = -p) := yz (by have := yy hp; exact ap (by omega) (by omega))
    have HR := yz (show ((Int.gcd a b : Nat) : Int) = -p by rw [← yy hg, yy HG, if_pos hn])
    go_wp2
    go_ret
    exact ⟨by rw [yy HR]; exact congrArg (fun x => Ending.returned (Value.int .i64 x)) (yy HW), nd, rfl⟩
   ·have HR := yz (show ((Int.gcd a b : Nat) : Int) = p by rw [← yy hg, yy HG, if_neg hn])
    go_wp2
    go_ret
    exact ⟨by rw [yy HR]; rfl, nd, rfl⟩
  ·have hz : (q == 0) = false := by simp [h0]
   have hr := qc (a := p) h0 (yy hq)
   have HL := yz (pe p q h0)
   have HS := yz (pD p q)
   obtain ⟨r, hre⟩ : ∃ r, p.tmod q = r := ⟨_, rfl⟩
   have hrw := hr.1
   have HRB := yz hr.2
   rw [hre] at hrw HRB HL HS
   clear hr
   go_wp2
   go_roundw
   case rel => exact ⟨q, r, rfl, rfl, hq, HRB, yz ((yy HS).trans (yy hg)), nd, rfl⟩
   case measure => simp [intOf]; exact yy HL
theorem eW (x y z : Int) (w : World) (hr : ay x y z = true) :
  Calls Tryz.prog 59 #[.agg #[.int .i64 x, .int .i64 y, .int .i64 z]] w fun e w' => e = .returned (.agg #[.int .i64 (wrap64 (x.tdiv (gI x y z))), .int .i64 (wrap64 (y.tdiv (gI x y z))), .int .i64 (wrap64 (z.tdiv (gI x y z)))]) ∧ Below w.heap.size w w' := by
 obtain ⟨⟨hx, hy, hz⟩, _⟩ := bh.1 hr
 have hg1 := iS hx hy
 have hpos := tC hr
 go_enter Tryz.func59, Tryz.ntmps59
 go_wp2_with fail
 go_quiet (first | (go_at_call_of 90 (Value.int IntKind.i64 x); refine Calls.quiet_of (fg x y _ hx hy)) | (go_at_call 90; refine Calls.quiet_of (fg _ z _ ?_ hz); omega))
 have hz0 : (gI x y z == 0) = false := by simp; omega
 have hgi : ((Int.gcd ((Int.gcd x y : Nat) : Int) z : Nat) : Int) = gI x y z := rfl
 rw [hgi]
 clear hgi
 generalize hge : gI x y z = g at hpos hz0 ⊢
 have HG := yz hge
 clear hge
 have va : aF (((w.alloc (.cells #[.int .i64 x, .int .i64 y, .int .i64 z] 78)).alloc (.cells #[.int .i64 0, .int .i64 0, .int .i64 0] 78)).drewN nq) w.heap.size x y z := ((aE w x y z _).alloc (by simp) _)
 have vr : aF (((w.alloc (.cells #[.int .i64 x, .int .i64 y, .int .i64 z] 78)).alloc (.cells #[.int .i64 0, .int .i64 0, .int .i64 0] 78)).drewN nq) (w.heap.size + 1) 0 0 0 := (by simpa using aE (w.alloc (.cells #[.int .i64 x, .int .i64 y, .int .i64 z] 78)) 0 0 0 78 : aF ((w.alloc (.cells #[.int .i64 x, .int .i64 y, .int .i64 z] 78)).alloc (.cells #[.int .i64 0, .int .i64 0, .int .i64 0] 78)) (w.heap.size + 1) 0 0 0)
 have fr : dn (((w.alloc (.cells #[.int .i64 x, .int .i64 y, .int .i64 z] 78)).alloc (.cells #[.int .i64 0, .int .i64 0, .int .i64 0] 78)).drewN nq) (w.heap.size + 1) := (by simpa using cq (w.alloc (.cells #[.int .i64 x, .int .i64 y, .int .i64 z] 78)) 0 0 0 78 : dn ((w.alloc (.cells #[.int .i64 x, .int .i64 y, .int .i64 z] 78)).alloc (.cells #[.int .i64 0, .int .i64 0, .int .i64 0] 78)) (w.heap.size + 1))
 have hB : Below w.heap.size w (((w.alloc (.cells #[.int .i64 x, .int .i64 y, .int .i64 z] 78)).alloc (.cells #[.int .i64 0, .int .i64 0, .int .i64 0] 78)).drewN nq) := aj (aM _ _ _) (bR _ _)
 generalize ((w.alloc (.cells #[.int .i64 x, .int .i64 y, .int .i64 z] 78)).alloc (.cells #[.int .i64 0, .int .i64 0, .int .i64 0] 78)).drewN nq = w1 at va vr fr hB ⊢
 obtain ⟨ca0, ca1, ca2⟩ := va
 obtain ⟨cr0, cr1, cr2⟩ := vr
 obtain ⟨fr0, fr1, fr2⟩ := fr
 clear hg1 hx hy hz hr
 go_wp2_with fail
 go_region
 go_wp2
 exact bodyPost_ret (v := .agg #[.int .i64 (wrap64 (x.tdiv g)), .int .i64 (wrap64 (y.tdiv g)), .int .i64 (wrap64 (z.tdiv g))]) (by simp [results, Tryz.results59, go_sem, cr0, cr1, cr2]) rfl ⟨by rw [yy HG], (aU hB (by omega) _ _ _).drew⟩
def gS (x y z : Int) : Nat → Int
 | 0 => 0
 | 1 => ((Int.gcd 0 x : Nat) : Int)
 | 2 => ((Int.gcd ((Int.gcd 0 x : Nat) : Int) y : Nat) : Int)
 | _ => ((Int.gcd ((Int.gcd ((Int.gcd 0 x : Nat) : Int) y : Nat) : Int) z : Nat) : Int)
theorem tD {x y z : Int} (k : Nat) (h : (-1000000 ≤ x ∧ x ≤ 1000000) ∧ (-1000000 ≤ y ∧ y ≤ 1000000) ∧ (-1000000 ≤ z ∧ z ≤ 1000000)) : -1000000 ≤ gS x y z k ∧ gS x y z k ≤ 1000000 := by
 have h1 := iS (a := 0) (m := 1000000) (by omega) h.1
 have h2 := iS (m := 1000000) (a := ((Int.gcd 0 x : Nat) : Int)) (by omega) h.2.1
 have h3 := iS (m := 1000000) (a := ((Int.gcd ((Int.gcd 0 x : Nat) : Int) y : Nat) : Int)) (by omega) h.2.2
 match k with
 | 0 => exact ⟨by show (-1000000 : Int) ≤ 0; omega, by show (0 : Int) ≤ 1000000; omega⟩
 | 1 => exact ⟨by show (-1000000 : Int) ≤ ((Int.gcd 0 x : Nat) : Int); omega, h1.2⟩
 | 2 => exact ⟨by show (-1000000 : Int) ≤ ((Int.gcd ((Int.gcd 0 x : Nat) : Int) y : Nat) : Int); omega, h2.2⟩
 | k + 3 => exact ⟨by show (-1000000 : Int) ≤ ((Int.gcd ((Int.gcd ((Int.gcd 0 x : Nat) : Int) y : Nat) : Int) z : Nat) : Int); omega, h3.2⟩
theorem nL (a1 a2 a3 : Int) (w : World) :
  Calls Tryz.prog 120 #[.agg #[.int .i64 a1, .int .i64 a2, .int .i64 a3]] w fun e w' => e = .returned (.agg #[.int .i64 (prI (ay a1 a2 a3) (gI a1 a2 a3) a1), .int .i64 (prI (ay a1 a2 a3) (gI a1 a2 a3) a2), .int .i64 (prI (ay a1 a2 a3) (gI a1 a2 a3) a3)]) ∧ Below w.heap.size w w' := by
 go_enter Tryz.func120, Tryz.ntmps120
 go_wp2_with fail
 refine (bF a1 a2 a3 _).mono ?_
 rintro e w1 ⟨rfl, hB1⟩
 have hB : Below w.heap.size w w1 := aj (aM _ _ _) hB1
 have hs : w.heap.size + 2 ≤ w1.heap.size := by have := hB1.size; simpa [Nat.add_assoc] using this
 have va : aF w1 w.heap.size a1 a2 a3 := ((by simpa using aE w a1 a2 a3 _ : aF _ w.heap.size a1 a2 a3).alloc (by simp) _).kept (by simp; omega) hB1
 have vr : aF w1 (w.heap.size + 1) 0 0 0 := (by simpa using aE (w.alloc _) 0 0 0 _ : aF _ (w.heap.size + 1) 0 0 0).kept (by simp) hB1
 have fr : dn w1 (w.heap.size + 1) := (by simpa using cq (w.alloc _) 0 0 0 _ : dn _ (w.heap.size + 1)).kept (by simp) hB1
 clear hB1
 have hva := va
 obtain ⟨ca0, ca1, ca2⟩ := va
 have hvr := vr
 have hfr := fr
 obtain ⟨cr0, cr1, cr2⟩ := vr
 obtain ⟨fr0, fr1, fr2⟩ := fr
 cases ha : ay a1 a2 a3
 ·go_wp2_with fail
  exact bodyPost_ret (v := .agg #[.int .i64 0, .int .i64 0, .int .i64 0]) (by simp [results, Tryz.results120, go_sem, cr0, cr1, cr2]) rfl ⟨by simp [prI, ha], aU hB (by omega) _ _ _⟩
 ·go_wp2_with fail
  refine (nK a1 a2 a3 _).mono ?_
  rintro e w2 ⟨rfl, hB2⟩
  have va := hva.kept (by omega) hB2
  have vr := hvr.kept (by omega) hB2
  have fr := hfr.kept (by omega) hB2
  replace hs : w.heap.size + 2 ≤ w2.heap.size := by have := hB2.size; omega
  replace hB : Below w.heap.size w w2 := aj hB hB2
  clear hB2 hva hvr hfr ca0 ca1 ca2 cr0 cr1 cr2 fr0 fr1 fr2
  have i0 : ∀ w : World, (Instr.index 136 (.agg #[.int .i64 a1, .int .i64 a2, .int .i64 a3]) (.int .i64 0)).run Tryz.prog w = .ok (.int .i64 a1) w := fun _ => by kernel_rfl
  have i1 : ∀ w : World, (Instr.index 136 (.agg #[.int .i64 a1, .int .i64 a2, .int .i64 a3]) (.int .i64 1)).run Tryz.prog w = .ok (.int .i64 a2) w := fun _ => by kernel_rfl
  have i2 : ∀ w : World, (Instr.index 136 (.agg #[.int .i64 a1, .int .i64 a2, .int .i64 a3]) (.int .i64 2)).run Tryz.prog w = .ok (.int .i64 a3) w := fun _ => by kernel_rfl
  have HR := yz (bh.1 ha).1
  have HP := yz (tC ha)
  go_wp2_with fail
  go_loopw [3, 12] (fun u i wr => ∃ (k n : Nat), k ≤ 3 ∧ i = .int .i64 k ∧ u = .int .i64 (gS a1 a2 a3 k) ∧ wr = w2.drewN n) (fun _ i _ => 3 - (intOf i).toNat)
  case atStart => exact ⟨0, 0, by omega, rfl, rfl, rfl⟩
  case round =>
   obtain ⟨k, n, hk, rfl, rfl, rfl⟩ := hrel
   have hk4 : k = 0 ∨ k = 1 ∨ k = 2 ∨ k = 3 := by omega
   rcases hk4 with rfl | rfl | rfl | rfl
   ·go_wp2_with fail
    refine (ea _ a1 _ (tD 0 (yy HR)) (yy HR).1).mono ?_
    rintro e w3 ⟨rfl, m, rfl⟩
    go_wp2_with fail
    go_roundw
    case rel => exact ⟨1, n + m, by omega, rfl, rfl, by simp⟩
    case measure => simp [intOf]
   ·go_wp2_with fail
    refine (ea _ a2 _ (tD 1 (yy HR)) (yy HR).2.1).mono ?_
    rintro e w3 ⟨rfl, m, rfl⟩
    go_wp2_with fail
    go_roundw
    case rel => exact ⟨2, n + m, by omega, rfl, rfl, by simp⟩
    case measure => simp [intOf]
   ·go_wp2_with fail
    refine (ea _ a3 _ (tD 2 (yy HR)) (yy HR).2.2).mono ?_
    rintro e w3 ⟨rfl, m, rfl⟩
    go_wp2_with fail
    go_roundw
    case rel => exact ⟨3, n + m, by omega, rfl, rfl, by simp⟩
    case measure => simp [intOf]
   ·have hgs : gS a1 a2 a3 3 = gI a1 a2 a3 := ss a1 a2 a3
    rw [hgs]
    clear hgs
    have hpos := yy HP
    have hz0 : (gI a1 a2 a3 == 0) = false := by simp; omega
    generalize hge : gI a1 a2 a3 = g at hpos hz0 ⊢
    have HG := yz hge
    clear hge i0 i1 i2
    have va' : aF (w2.drewN n) w.heap.size a1 a2 a3 := va
    have vr' : aF (w2.drewN n) (w.heap.size + 1) 0 0 0 := vr
    have fr' : dn (w2.drewN n) (w.heap.size + 1) := fr
    have hB' : Below w.heap.size w (w2.drewN n) := aj hB (bR _ _)
    clear va vr fr hB hs
    go_wp2_with fail
    generalize w2.drewN n = w3 at va' vr' fr' hB' ⊢
    obtain ⟨ca0, ca1, ca2⟩ := va'
    obtain ⟨cr0, cr1, cr2⟩ := vr'
    obtain ⟨fr0, fr1, fr2⟩ := fr'
    go_region
    go_wp2
    exact bodyPost_ret (v := .agg #[.int .i64 (wrap64 (a1.tdiv g)), .int .i64 (wrap64 (a2.tdiv g)), .int .i64 (wrap64 (a3.tdiv g))]) (by simp [results, Tryz.results120, go_sem, cr0, cr1, cr2]) rfl ⟨by rw [yy HG]; simp [prI, ha], (aU hB' (by omega) _ _ _).drew⟩
end
section
open Go.RowKit Go.Sort
theorem uc (a1 a2 a3 b1 b2 b3 : Int) : cJ a1 a2 a3 b1 b2 b3 = (eqB (crI (ay a1 a2 a3 && ay b1 b2 b3) a2 a3 b2 b3) (crI (ay a1 a2 a3 && ay b1 b2 b3) a3 a1 b3 b1) (crI (ay a1 a2 a3 && ay b1 b2 b3) a1 a2 b1 b2) 0 0 0 && decide (0 < oj a1 a2 a3 b1 b2 b3)) := by
 unfold cJ crI oj
 cases h : (ay a1 a2 a3 && ay b1 b2 b3)
 ·simp
 ·simp [eqB, eT]
theorem fE (a1 a2 a3 b1 b2 b3 : Int) (w : World) :
  Calls Tryz.prog 51 #[.agg #[.int .i64 a1, .int .i64 a2, .int .i64 a3], .agg #[.int .i64 b1, .int .i64 b2, .int .i64 b3]] w fun e w' => e = .returned (.bool (cJ a1 a2 a3 b1 b2 b3)) ∧ Below w.heap.size w w' := by
 have HS := yz (uc a1 a2 a3 b1 b2 b3)
 go_enter Tryz.func51, Tryz.ntmps51
 go_wp2_with fail
 refine (nh a1 a2 a3 b1 b2 b3 _).mono ?_
 rintro e w1 ⟨rfl, hB1⟩
 have hB : Below w.heap.size w w1 := aj (aM _ _ _) hB1
 have va : aF w1 w.heap.size a1 a2 a3 := ((aE w a1 a2 a3 _).alloc (by simp) _).kept (by simp; omega) hB1
 have vb : aF w1 (w.heap.size + 1) b1 b2 b3 := (by simpa using aE (w.alloc _) b1 b2 b3 _ : aF _ (w.heap.size + 1) b1 b2 b3).kept (by simp) hB1
 clear hB1
 obtain ⟨ca0, ca1, ca2⟩ := va
 obtain ⟨cb0, cb1, cb2⟩ := vb
 generalize crI (ay a1 a2 a3 && ay b1 b2 b3) a2 a3 b2 b3 = x at HS ⊢
 generalize crI (ay a1 a2 a3 && ay b1 b2 b3) a3 a1 b3 b1 = y at HS ⊢
 generalize crI (ay a1 a2 a3 && ay b1 b2 b3) a1 a2 b1 b2 = z at HS ⊢
 have he := fun w => oq x y z 0 0 0 w
 cases hz : eqB x y z 0 0 0
 ·rw [hz] at he HS
  go_wp2_with fail
  go_ret
  exact ⟨by rw [yy HS]; rfl, hB⟩
 ·rw [hz] at he HS
  go_wp2_with fail
  refine (ol a1 a2 a3 b1 b2 b3 _).mono ?_
  rintro e w2 ⟨rfl, hB2⟩
  replace hB := aj hB hB2
  go_wp2_with fail
  go_ret
  exact ⟨by rw [yy HS, Bool.true_and]; rfl, hB⟩
theorem gO (a1 a2 a3 b1 b2 b3 : Int) (w : World) :
  Calls Tryz.prog 71 #[.agg #[.int .i64 a1, .int .i64 a2, .int .i64 a3], .agg #[.int .i64 b1, .int .i64 b2, .int .i64 b3]] w fun e w' => e = .returned (.bool (eqB (crW a2 a3 b2 b3) (crW a3 a1 b3 b1) (crW a1 a2 b1 b2) 0 0 0 && decide (0 < bt a1 a2 a3 b1 b2 b3))) ∧ Below w.heap.size w w' := by
 go_enter Tryz.func71, Tryz.ntmps71
 go_wp2_with fail
 refine (jr a1 a2 a3 b1 b2 b3 _).mono ?_
 rintro e w1 ⟨rfl, hB1⟩
 have hB : Below w.heap.size w w1 := aj (aM _ _ _) hB1
 have va : aF w1 w.heap.size a1 a2 a3 := ((aE w a1 a2 a3 _).alloc (by simp) _).kept (by simp; omega) hB1
 have vb : aF w1 (w.heap.size + 1) b1 b2 b3 := (by simpa using aE (w.alloc _) b1 b2 b3 _ : aF _ (w.heap.size + 1) b1 b2 b3).kept (by simp) hB1
 clear hB1
 obtain ⟨ca0, ca1, ca2⟩ := va
 obtain ⟨cb0, cb1, cb2⟩ := vb
 have he := fun w => oq (crW a2 a3 b2 b3) (crW a3 a1 b3 b1) (crW a1 a2 b1 b2) 0 0 0 w
 cases hz : eqB (crW a2 a3 b2 b3) (crW a3 a1 b3 b1) (crW a1 a2 b1 b2) 0 0 0
 ·rw [hz] at he
  go_wp2_with fail
  go_ret
  exact ⟨by rw [hz]; rfl, hB⟩
 ·rw [hz] at he
  go_wp2_with fail
  refine (eF a1 a2 a3 b1 b2 b3 _).mono ?_
  rintro e w2 ⟨rfl, hB2⟩
  replace hB := aj hB hB2
  go_wp2_with fail
  go_ret
  exact ⟨by rw [hz, Bool.true_and]; rfl, hB⟩
end
section
open Go.RowKit
def fZ (w : World) (b o : Nat) (s : St) : Prop := w.cell? ⟨b, o, none⟩ = some (.int .i64 s.1) ∧ w.cell? ⟨b, o + 1, none⟩ = some (.int .i64 s.2.1) ∧ w.cell? ⟨b, o + 2, none⟩ = some (.int .i64 s.2.2.1) ∧ w.cell? ⟨b, o + 3, none⟩ = some (.int .i64 s.2.2.2)
def aH (w : World) (a : Option Addr) (L : List St) (n : Nat) : Prop := n = 0 ∨ ∃ b o, a = some ⟨b, o, none⟩ ∧ b < w.heap.size ∧ ∀ i, i < n → fZ w b (o + i * 4) (stA L i)
theorem fZ.kept {w w' : World} {b o : Nat} {s : St} (h : fZ w b o s) (hb : b < w.heap.size) (hB : Below w.heap.size w w') : fZ w' b o s := by
 obtain ⟨h0, h1, h2, h3⟩ := h
 exact ⟨by rw [hB.cell (p := ⟨b, o, none⟩) hb]; exact h0, by rw [hB.cell (p := ⟨b, o + 1, none⟩) hb]; exact h1, by rw [hB.cell (p := ⟨b, o + 2, none⟩) hb]; exact h2, by rw [hB.cell (p := ⟨b, o + 3, none⟩) hb]; exact h3⟩
theorem aH.kept {w w' : World} {a : Option Addr} {L : List St} {n : Nat} (h : aH w a L n) (hB : Below w.heap.size w w') : aH w' a L n := by
 rcases h with h | ⟨b, o, ha, hb, hc⟩
 ·exact .inl h
 ·exact .inr ⟨b, o, ha, Nat.lt_of_lt_of_le hb hB.size, fun i hi => (hc i hi).kept hb hB⟩
theorem vlt {w : World} {b : Nat} {x y z : Int} (h : aF w b x y z) : b < w.heap.size := World.block_lt_of_cell? w _ h.1
theorem aH.less {w : World} {a : Option Addr} {L : List St} {n m : Nat} (h : aH w a L n) (hm : m ≤ n) : aH w a L m := by
 rcases h with h | ⟨b, o, ha, hb, hc⟩
 ·exact .inl (by omega)
 ·exact .inr ⟨b, o, ha, hb, fun i hi => hc i (by omega)⟩
theorem kB (L : List St) (n : Nat) (x y z : Int) (a : Option Addr) (c : Nat) (w : World) (hn : n ≤ 1048576) (hS : aH w a L n) :
  Calls Tryz.prog 121 #[.agg #[.int .i64 x, .int .i64 y, .int .i64 z], .slice a n c] w fun e w' => e = .returned (.bool (dL L (0, x, y, z) n)) ∧ Below w.heap.size w w' := by
 rcases hS with rfl | ⟨b, o, rfl, hb, hc⟩
 ·go_enter Tryz.func121, Tryz.ntmps121
  go_wp2_with fail
  refine wp_loop_rounds 1 ?_
  rw [rounds_succ]
  go_wp2_with fail
  go_ret
  exact ⟨rfl, an _ _⟩
 ·have HC := yz hc
  clear hc
  have V0 := yz (aE w x y z 78)
  have B0 := yz (an w (.cells #[.int .i64 x, .int .i64 y, .int .i64 z] 78))
  go_enter Tryz.func121, Tryz.ntmps121
  go_wp2_with fail
  go_loopw [9] (fun i wr => ∃ k : Nat, k ≤ n ∧ i = .int .i64 k ∧ Hid (jT L (0, x, y, z) k) ∧ Hid (Below w.heap.size w wr) ∧ Hid (aF wr w.heap.size x y z)) (fun i _ => n - (intOf i).toNat)
  case atStart => exact ⟨0, by omega, rfl, yz (fun j hj => absurd hj (Nat.not_lt_zero _)), B0, V0⟩
  case round =>
   obtain ⟨k, hk, rfl, HF, HB, HV⟩ := hrel
   by_cases hkn : k < n
   ·obtain ⟨⟨s1, s2, s3, s4⟩, hs⟩ : ∃ s, stA L k = s := ⟨_, rfl⟩
    have hst := ((yy HC) k hkn).kept hb (yy HB)
    rw [hs] at hst
    obtain ⟨c0, c1, c2, c3⟩ := hst
    have HS := yz hs
    clear hs
    have V1 := yz (aF.alloc (yy HV) (vlt (yy HV)) (.cells #[.int .i64 s1, .int .i64 s2, .int .i64 s3, .int .i64 s4] 80))
    have B1 := yz ((yy HB).alloc (yy HB).size (.cells #[.int .i64 s1, .int .i64 s2, .int .i64 s3, .int .i64 s4] 80))
    obtain ⟨v0, v1, v2⟩ := yy V1
    go_wp2_with fail
    refine (fE x y z s2 s3 s4 _).mono ?_
    rintro e w2 ⟨rfl, hx⟩
    have HV2 := yz ((yy V1).kept (vlt (yy V1)) hx)
    have HB2 := yz (aj (yy B1) hx)
    clear hx c0 c1 c2 c3 v0 v1 v2 V1 B1 HB HV
    have HR : Hid (kF (0, x, y, z) (stA L k) = cJ x y z s2 s3 s4) := yz (by rw [yy HS]; rfl)
    cases hq : cJ x y z s2 s3 s4
    ·rw [hq] at HR
     go_wp2_with fail
     go_roundw
     case rel => exact ⟨k + 1, by omega, by go_num, yz (nt (yy HF) (yy HR)), HB2, HV2⟩
     case measure => simp [intOf]; omega
    ·rw [hq] at HR
     go_wp2_with fail
     go_ret
     exact ⟨by rw [nO hkn (yy HR)]; rfl, yy HB2⟩
   ·have hkn' : k = n := by omega
    subst hkn'
    go_wp2_with fail
    go_ret
    exact ⟨by rw [mA (yy HF)]; rfl, yy HB⟩
end
section
open Go.RowKit Go.Sort
theorem pO (x y z : Int) (w : World) :
  Calls Tryz.prog 70 #[.agg #[.int .i64 x, .int .i64 y, .int .i64 z]] w fun e w' => e = .returned (.bool (bO x y z)) ∧ Below w.heap.size w w' := by
 have A0 := aE w x y z 78
 have B0 := an w (.cells #[.int .i64 x, .int .i64 y, .int .i64 z] 78)
 have cR := yz (fun W => cy x y z W)
 have cW := yz (fun W => dU 1800 x y z W (by omega) (by omega))
 have HW : Hid (bO x y z = (ay x y z && aK 1800 x y z)) := yz rfl
 generalize bO x y z = wv at *
 generalize aK 1800 x y z = wi at *
 go_enter Tryz.func70, Tryz.ntmps70
 go_wp2_with fail
 refine (yy cR _).mono ?_
 rintro e w1 ⟨rfl, hx⟩
 obtain ⟨c0, c1, c2⟩ := A0.kept (World.block_lt_of_cell? _ _ A0.1) hx
 have B1 := aj B0 hx
 clear hx B0 A0
 cases hr : ay x y z
 ·rw [hr] at HW
  go_wp2_with fail
  go_ret
  exact ⟨by rw [yy HW]; rfl, B1⟩
 ·rw [hr] at HW
  go_wp2_with fail
  refine (yy cW _).mono ?_
  rintro e w2 ⟨rfl, hx⟩
  have B2 := aj B1 hx
  clear hx B1
  go_wp2_with fail
  go_ret
  exact ⟨by rw [yy HW]; rfl, B2⟩
end
section
open Go.RowKit
def dO (w : World) (t : TypeId) (g m : Nat) (f : Nat → Int) : Prop := ∃ cur : Array Value, w.heap[g]? = some (.cells cur t (0, 0)) ∧ ∀ j, j < m → cur[j]? = some (.int .i64 (f j))
theorem dO.lt {w : World} {t : TypeId} {g m : Nat} {f : Nat → Int} (h : dO w t g m f) : g < w.heap.size := by
 obtain ⟨cur, hc, _⟩ := h
 exact (Array.getElem?_eq_some_iff.1 hc).1
theorem dO.same {w w' : World} {t : TypeId} {g m : Nat} {f : Nat → Int} (h : dO w t g m f) (e : w'.heap[g]? = w.heap[g]?) : dO w' t g m f := by
 obtain ⟨cur, hc, hs⟩ := h
 exact ⟨cur, by rw [e]; exact hc, hs⟩
theorem dO.kept {w w' : World} {t : TypeId} {g m : Nat} {f : Nat → Int} (h : dO w t g m f) (hB : Below w.heap.size w w') : dO w' t g m f := h.same (hB.block g h.lt)
theorem dO.congr {w : World} {t : TypeId} {g m : Nat} {f f' : Nat → Int} (h : dO w t g m f) (e : ∀ j, j < m → f j = f' j) : dO w t g m f' := by
 obtain ⟨cur, hc, hs⟩ := h
 exact ⟨cur, hc, fun j hj => by rw [hs j hj, e j hj]⟩
theorem dO.cell {w : World} {t : TypeId} {g m j : Nat} {f : Nat → Int} (h : dO w t g m f) (hj : j < m) : w.cell? ⟨g, j, none⟩ = some (.int .i64 (f j)) := by
 obtain ⟨cur, hc, hs⟩ := h
 rw [cell_of_row w g j cur t _ hc]
 exact hs j hj
theorem dO.free {w : World} {t : TypeId} {g m : Nat} {f : Nat → Int} (h : dO w t g m f) (j : Nat) : w.frozen? ⟨g, j, none⟩ = false := by
 obtain ⟨cur, hc, _⟩ := h
 exact frozen_of_row w g j cur t hc
theorem dO.set {w : World} {t : TypeId} {g m : Nat} {f : Nat → Int} (h : dO w t g m f) (i : Nat) (v : Int) : dO (w.setCell ⟨g, i, none⟩ (.int .i64 v)) t g m (fun j => if j = i then v else f j) := by
 obtain ⟨cur, hc, hs⟩ := h
 refine ⟨_, heap_setCell_same w g i cur t (.int .i64 v) hc, fun j hj => ?_⟩
 have := hs j hj
 rw [Array.getElem?_setIfInBounds]
 by_cases e : i = j
 ·subst e
  simp [(Array.getElem?_eq_some_iff.1 this).1]
 ·have e' : ¬ j = i := fun h => e (Eq.symm h)
  simp [e, e', this]
theorem fc (w : World) (row : Option Nat) : w.grownBy w row := ⟨rfl, rfl, rfl, Nat.le_refl _, fun _ _ _ => rfl⟩
theorem gM {w w1 : World} {g : Nat} (h : w.grownBy w1 (some g)) (i : Nat) (v : Value) : w.grownBy (w1.setCell ⟨g, i, none⟩ v) (some g) :=
 ⟨h.os, h.tape, h.output, by simpa [World.setCell] using h.size, fun k hk hne => by rw [Below.heap_setCell _ _ _ _ (fun e => hne (by rw [e]))]; exact h.block k hk hne⟩
end
end Go.Proofs.YtgiodlllokdcdaaGreatDoor
