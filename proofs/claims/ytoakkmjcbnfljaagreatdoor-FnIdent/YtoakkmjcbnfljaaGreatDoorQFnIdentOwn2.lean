/- Several texts in one: VecD, VecE, VecI, VecJ, VecK, VecL, VecF, VecG, VecH, SkyB, WideT. -/
import Derived.Deep.RegionWith
import Derived.Lib.QuietBelow
import Derived.Deep.QuietTactic
import Derived.BigQuiet
import Derived.BigRegion
import Derived.Test.YtoakkmjcbnfljaaGreatDoorQFnIdentOwn1
namespace Go.Proofs.YtoakkmjcbnfljaaGreatDoor
set_option linter.unusedVariables false
set_option linter.unusedSimpArgs false
set_option maxRecDepth 100000
set_option maxHeartbeats 8000000
section
open Go.RowKit
def aB (w : World) (b : Nat) (x y z : Int) : Prop := w.cell? ⟨b, 0, none⟩ = some (.int .i64 x) ∧ w.cell? ⟨b, 1, none⟩ = some (.int .i64 y) ∧ w.cell? ⟨b, 2, none⟩ = some (.int .i64 z)
def bO (w : World) (b : Nat) : Prop := w.frozen? ⟨b, 0, none⟩ = false ∧ w.frozen? ⟨b, 1, none⟩ = false ∧ w.frozen? ⟨b, 2, none⟩ = false
theorem aB.kept {w w' : World} {b : Nat} {x y z : Int} (h : aB w b x y z) (hb : b < w.heap.size) (hB : Below w.heap.size w w') : aB w' b x y z := by
 obtain ⟨h0, h1, h2⟩ := h
 exact ⟨by rw [hB.cell (p := ⟨b, 0, none⟩) hb]; exact h0, by rw [hB.cell (p := ⟨b, 1, none⟩) hb]; exact h1, by rw [hB.cell (p := ⟨b, 2, none⟩) hb]; exact h2⟩
theorem bO.kept {w w' : World} {b : Nat} (h : bO w b) (hb : b < w.heap.size) (hB : Below w.heap.size w w') : bO w' b := by
 obtain ⟨h0, h1, h2⟩ := h
 exact ⟨by rw [hB.frozen (p := ⟨b, 0, none⟩) hb]; exact h0, by rw [hB.frozen (p := ⟨b, 1, none⟩) hb]; exact h1, by rw [hB.frozen (p := ⟨b, 2, none⟩) hb]; exact h2⟩
theorem aA (w : World) (x y z : Int) (t : TypeId) : aB (w.alloc (.cells #[.int .i64 x, .int .i64 y, .int .i64 z] t)) w.heap.size x y z := by
 refine ⟨?_, ?_, ?_⟩ <;> simp
theorem bk (w : World) (x y z : Int) (t : TypeId) : bO (w.alloc (.cells #[.int .i64 x, .int .i64 y, .int .i64 z] t)) w.heap.size := by
 refine ⟨?_, ?_, ?_⟩ <;> simp
theorem aB.alloc {w : World} {b : Nat} {x y z : Int} (h : aB w b x y z) (hb : b < w.heap.size) (o : Obj) : aB (w.alloc o) b x y z := h.kept hb (ak _ _)
theorem aQ {w w1 : World} {b : Nat} (h : Below w.heap.size w w1) (hb : w.heap.size ≤ b) (x y z : Value) : Below w.heap.size w (((w1.setCell ⟨b, 0, none⟩ x).setCell ⟨b, 1, none⟩ y).setCell ⟨b, 2, none⟩ z) := ((h.setCell hb _).setCell hb _).setCell hb _
theorem rQ (w : World) (a b c d : Obj) : Below w.heap.size w ((((w.alloc a).alloc b).alloc c).alloc d) := (fW w a b c).alloc (by simp; omega) _
theorem na (a1 a2 a3 b1 b2 b3 : Int) (w : World) :
  Calls Tryz.prog 75 #[.agg #[.int .i64 a1, .int .i64 a2, .int .i64 a3], .agg #[.int .i64 b1, .int .i64 b2, .int .i64 b3]] w fun e w' => e = .returned (.int .i64 (mZ a1 a2 a3 b1 b2 b3)) ∧ Below w.heap.size w w' := by
 go_enter Tryz.func75, Tryz.ntmps75
 go_wp2_with fail
 refine (bt a1 a2 a3 _).mono ?_
 rintro e w1 ⟨rfl, hB1⟩
 have hB : Below w.heap.size w w1 := aj (bj _ _ _) hB1
 have hs : w.heap.size + 2 ≤ w1.heap.size := by have := hB1.size; simpa [Nat.add_assoc] using this
 have va : aB w1 w.heap.size a1 a2 a3 := ((by simpa using aA w a1 a2 a3 _ : aB _ w.heap.size a1 a2 a3).alloc (by simp) _).kept (by simp; omega) hB1
 have vb : aB w1 (w.heap.size + 1) b1 b2 b3 := (by simpa using aA (w.alloc _) b1 b2 b3 _ : aB _ (w.heap.size + 1) b1 b2 b3).kept (by simp) hB1
 clear hB1
 have hva := va
 obtain ⟨ca0, ca1, ca2⟩ := va
 have hvb := vb
 obtain ⟨cb0, cb1, cb2⟩ := vb
 cases ha : aq a1 a2 a3
 ·go_wp2_with fail
  go_ret
  exact ⟨by simp [mZ, ha], hB⟩
 ·go_wp2_with fail
  refine (bt b1 b2 b3 _).mono ?_
  rintro e w2 ⟨rfl, hB2⟩
  have va := hva.kept (by omega) hB2
  have vb := hvb.kept (by omega) hB2
  replace hs : w.heap.size + 2 ≤ w2.heap.size := by have := hB2.size; omega
  replace hB : Below w.heap.size w w2 := aj hB hB2
  clear hva ca0 ca1 ca2 hvb cb0 cb1 cb2
  clear hB2
  have hva := va
  obtain ⟨ca0, ca1, ca2⟩ := va
  have hvb := vb
  obtain ⟨cb0, cb1, cb2⟩ := vb
  cases hb : aq b1 b2 b3
  ·go_wp2_with fail
   go_ret
   exact ⟨by simp [mZ, hb], hB⟩
  ·go_wp2_with fail
   refine (jA a1 a2 a3 b1 b2 b3 _).mono ?_
   rintro e w3 ⟨rfl, hB3⟩
   go_wp2_with fail
   go_ret
   exact ⟨by simp [mZ, ha, hb], aj hB hB3⟩
theorem mm (a1 a2 a3 b1 b2 b3 : Int) (w : World) :
  Calls Tryz.prog 74 #[.agg #[.int .i64 a1, .int .i64 a2, .int .i64 a3], .agg #[.int .i64 b1, .int .i64 b2, .int .i64 b3]] w fun e w' => e = .returned (.agg #[.int .i64 (crI (aq a1 a2 a3 && aq b1 b2 b3) a2 a3 b2 b3), .int .i64 (crI (aq a1 a2 a3 && aq b1 b2 b3) a3 a1 b3 b1), .int .i64 (crI (aq a1 a2 a3 && aq b1 b2 b3) a1 a2 b1 b2)]) ∧ Below w.heap.size w w' := by
 go_enter Tryz.func74, Tryz.ntmps74
 go_wp2_with fail
 refine (bt a1 a2 a3 _).mono ?_
 rintro e w1 ⟨rfl, hB1⟩
 have hB : Below w.heap.size w w1 := aj (fW _ _ _ _) hB1
 have hs : w.heap.size + 3 ≤ w1.heap.size := by have := hB1.size; simpa [Nat.add_assoc] using this
 have va : aB w1 w.heap.size a1 a2 a3 := (((by simpa using aA w a1 a2 a3 _ : aB _ w.heap.size a1 a2 a3).alloc (by simp) _).alloc (by simp; omega) _).kept (by simp; omega) hB1
 have vb : aB w1 (w.heap.size + 1) b1 b2 b3 := ((by simpa using aA (w.alloc _) b1 b2 b3 _ : aB _ (w.heap.size + 1) b1 b2 b3).alloc (by simp) _).kept (by simp) hB1
 have vr : aB w1 (w.heap.size + 1 + 1) 0 0 0 := (by simpa using aA ((w.alloc _).alloc _) 0 0 0 _ : aB _ (w.heap.size + 1 + 1) 0 0 0).kept (by simp) hB1
 have fr : bO w1 (w.heap.size + 1 + 1) := (by simpa using bk ((w.alloc _).alloc _) 0 0 0 _ : bO _ (w.heap.size + 1 + 1)).kept (by simp) hB1
 clear hB1
 have hva := va
 obtain ⟨ca0, ca1, ca2⟩ := va
 have hvb := vb
 obtain ⟨cb0, cb1, cb2⟩ := vb
 have hvr := vr
 have hfr := fr
 obtain ⟨cr0, cr1, cr2⟩ := vr
 obtain ⟨fr0, fr1, fr2⟩ := fr
 cases ha : aq a1 a2 a3
 ·go_wp2_with fail
  exact bodyPost_ret (v := .agg #[.int .i64 0, .int .i64 0, .int .i64 0]) (by simp [results, Tryz.results74, go_sem, cr0, cr1, cr2]) rfl ⟨by simp [crI, ha], aQ hB (by omega) _ _ _⟩
 ·go_wp2_with fail
  refine (bt b1 b2 b3 _).mono ?_
  rintro e w2 ⟨rfl, hB2⟩
  have va := hva.kept (by omega) hB2
  have vb := hvb.kept (by omega) hB2
  have vr := hvr.kept (by omega) hB2
  have fr := hfr.kept (by omega) hB2
  replace hs : w.heap.size + 3 ≤ w2.heap.size := by have := hB2.size; omega
  replace hB : Below w.heap.size w w2 := aj hB hB2
  clear hva ca0 ca1 ca2 hvb cb0 cb1 cb2 hvr hfr cr0 cr1 cr2 fr0 fr1 fr2
  clear hB2
  have hva := va
  obtain ⟨ca0, ca1, ca2⟩ := va
  have hvb := vb
  obtain ⟨cb0, cb1, cb2⟩ := vb
  have hvr := vr
  have hfr := fr
  obtain ⟨cr0, cr1, cr2⟩ := vr
  obtain ⟨fr0, fr1, fr2⟩ := fr
  cases hb : aq b1 b2 b3
  ·go_wp2_with fail
   exact bodyPost_ret (v := .agg #[.int .i64 0, .int .i64 0, .int .i64 0]) (by simp [results, Tryz.results74, go_sem, cr0, cr1, cr2]) rfl ⟨by simp [crI, hb], aQ hB (by omega) _ _ _⟩
  ·go_wp2_with fail
   exact bodyPost_ret (v := .agg #[.int .i64 (crW a2 a3 b2 b3), .int .i64 (crW a3 a1 b3 b1), .int .i64 (crW a1 a2 b1 b2)]) (by simp [results, Tryz.results74, go_sem, cr0, cr1, cr2, crW]) rfl ⟨by simp [crI, ha, hb], aQ hB (by omega) _ _ _⟩
theorem iM (a1 a2 a3 b1 b2 b3 : Int) (w : World) :
  Calls Tryz.prog 81 #[.agg #[.int .i64 a1, .int .i64 a2, .int .i64 a3], .agg #[.int .i64 b1, .int .i64 b2, .int .i64 b3]] w fun e w' => e = .returned (.agg #[.int .i64 (crW a2 a3 b2 b3), .int .i64 (crW a3 a1 b3 b1), .int .i64 (crW a1 a2 b1 b2)]) ∧ Below w.heap.size w w' := by
 go_enter Tryz.func81, Tryz.ntmps81
 go_wp2
 exact bodyPost_ret (v := .agg #[.int .i64 (crW a2 a3 b2 b3), .int .i64 (crW a3 a1 b3 b1), .int .i64 (crW a1 a2 b1 b2)]) (by simp [results, Tryz.results81, go_sem, crW]) rfl ⟨rfl, fW _ _ _ _⟩
end
section
open Go.RowKit Go.Sort
theorem qn (a1 a2 a3 b1 b2 b3 c1 c2 c3 : Int) (w : World) :
  Calls Tryz.prog 96 #[.agg #[.int .i64 a1, .int .i64 a2, .int .i64 a3], .agg #[.int .i64 b1, .int .i64 b2, .int .i64 b3], .agg #[.int .i64 c1, .int .i64 c2, .int .i64 c3]] w fun e w' => e = .returned (.int .i64 (ka a1 a2 a3 b1 b2 b3 c1 c2 c3)) ∧ Below w.heap.size w w' := by
 go_enter Tryz.func96, Tryz.ntmps96
 go_wp2_with fail
 refine (bt a1 a2 a3 _).mono ?_
 rintro e w1 ⟨rfl, hB1⟩
 have hB : Below w.heap.size w w1 := aj (fW _ _ _ _) hB1
 have hs : w.heap.size + 3 ≤ w1.heap.size := by have := hB1.size; simpa [Nat.add_assoc] using this
 have va : aB w1 w.heap.size a1 a2 a3 := (((by simpa using aA w a1 a2 a3 _ : aB _ w.heap.size a1 a2 a3).alloc (by simp) _).alloc (by simp; omega) _).kept (by simp; omega) hB1
 have vb : aB w1 (w.heap.size + 1) b1 b2 b3 := ((by simpa using aA (w.alloc _) b1 b2 b3 _ : aB _ (w.heap.size + 1) b1 b2 b3).alloc (by simp) _).kept (by simp) hB1
 have vc : aB w1 (w.heap.size + 1 + 1) c1 c2 c3 := (by simpa using aA ((w.alloc _).alloc _) c1 c2 c3 _ : aB _ (w.heap.size + 1 + 1) c1 c2 c3).kept (by simp) hB1
 clear hB1
 have hva := va
 obtain ⟨ca0, ca1, ca2⟩ := va
 have hvb := vb
 obtain ⟨cb0, cb1, cb2⟩ := vb
 have hvc := vc
 obtain ⟨cc0, cc1, cc2⟩ := vc
 cases ha : aq a1 a2 a3
 ·go_wp2_with fail
  go_ret
  exact ⟨by simp [ka, ha], hB⟩
 ·go_wp2_with fail
  refine (bt b1 b2 b3 _).mono ?_
  rintro e w2 ⟨rfl, hB2⟩
  have va := hva.kept (by omega) hB2
  have vb := hvb.kept (by omega) hB2
  have vc := hvc.kept (by omega) hB2
  replace hs : w.heap.size + 3 ≤ w2.heap.size := by have := hB2.size; omega
  replace hB : Below w.heap.size w w2 := aj hB hB2
  clear hva ca0 ca1 ca2 hvb cb0 cb1 cb2 hvc cc0 cc1 cc2
  clear hB2
  have hva := va
  obtain ⟨ca0, ca1, ca2⟩ := va
  have hvb := vb
  obtain ⟨cb0, cb1, cb2⟩ := vb
  have hvc := vc
  obtain ⟨cc0, cc1, cc2⟩ := vc
  cases hb : aq b1 b2 b3
  ·go_wp2_with fail
   go_ret
   exact ⟨by simp [ka, hb], hB⟩
  ·go_wp2_with fail
   refine (bt c1 c2 c3 _).mono ?_
   rintro e w3 ⟨rfl, hB3⟩
   have va := hva.kept (by omega) hB3
   have vb := hvb.kept (by omega) hB3
   have vc := hvc.kept (by omega) hB3
   replace hs : w.heap.size + 3 ≤ w3.heap.size := by have := hB3.size; omega
   replace hB : Below w.heap.size w w3 := aj hB hB3
   clear hva ca0 ca1 ca2 hvb cb0 cb1 cb2 hvc cc0 cc1 cc2
   clear hB3
   have hva := va
   obtain ⟨ca0, ca1, ca2⟩ := va
   have hvb := vb
   obtain ⟨cb0, cb1, cb2⟩ := vb
   have hvc := vc
   obtain ⟨cc0, cc1, cc2⟩ := vc
   cases hc : aq c1 c2 c3
   ·go_wp2_with fail
    go_ret
    exact ⟨by simp [ka, hc], hB⟩
   ·go_wp2_with fail
    clear hva hvb hvc
    have HD := yz (show ka a1 a2 a3 b1 b2 b3 c1 c2 c3 = bf (crW a2 a3 b2 b3) (crW a3 a1 b3 b1) (crW a1 a2 b1 b2) c1 c2 c3 by simp [ka, ha, hb, hc])
    have ka0 := cell_regrown ca0
    have ka1 := cell_regrown ca1
    have ka2 := cell_regrown ca2
    have kb0 := cell_regrown cb0
    have kb1 := cell_regrown cb1
    have kb2 := cell_regrown cb2
    have kc0 := cell_regrown cc0
    have kc1 := cell_regrown cc1
    have kc2 := cell_regrown cc2
    refine wp_region_quiet_below (by kernel_rfl) (by kernel_rfl) ?_
    repeat (quiet_step (first | exact Calls.regrown_of (mm a1 a2 a3 b1 b2 b3 _) | exact Calls.regrown_of (jA _ _ _ c1 c2 c3 _)))
    refine wpQuiet_nil ?_
    intro _ hw'
    obtain ⟨⟨dq, osq⟩, hw''⟩ := hw'
    subst hw''
    clear ca0 ka0 ca1 ka1 ca2 ka2 cb0 kb0 cb1 kb1 cb2 kb2 cc0 kc0 cc1 kc1 cc2 kc2
    go_wp2
    go_ret
    exact ⟨by rw [yy HD]; simp [crI], aj hB (below_regrown w3 dq osq)⟩
theorem lF (x y z : Int) (w : World) :
  Calls Tryz.prog 109 #[.agg #[.int .i64 x, .int .i64 y, .int .i64 z]] w fun e w' => e = .returned (.int .i64 (bf x y z x y z)) ∧ Below w.heap.size w w' := by
 go_enter Tryz.func109, Tryz.ntmps109
 go_wp2_with fail
 refine (jA x y z x y z _).mono ?_
 rintro e w1 ⟨rfl, hB1⟩
 have hB : Below w.heap.size w w1 := aj (ak _ _) hB1
 go_wp2_with fail
 go_ret
 exact ⟨rfl, hB⟩
theorem fF (x y z : Int) (w : World) :
  Calls Tryz.prog 44 #[.agg #[.int .i64 x, .int .i64 y, .int .i64 z]] w fun e w' => e = .returned (.bool (bz x y z)) ∧ Below w.heap.size w w' := by
 go_enter Tryz.func44, Tryz.ntmps44
 go_wp2_with fail
 refine (bt x y z _).mono ?_
 rintro e w1 ⟨rfl, hB1⟩
 have hB : Below w.heap.size w w1 := aj (ak _ _) hB1
 have va : aB w1 w.heap.size x y z := (aA w x y z _).kept (by simp) hB1
 clear hB1
 obtain ⟨ca0, ca1, ca2⟩ := va
 cases ha : aq x y z
 ·go_wp2_with fail
  go_ret
  exact ⟨by simp [bz, ha], hB⟩
 ·go_wp2_with fail
  refine (iC 1800 x y z _ (by omega) (by omega)).mono ?_
  rintro e w2 ⟨rfl, hB2⟩
  replace hB := aj hB hB2
  go_wp2_with fail
  go_ret
  exact ⟨by simp [bz, ha], hB⟩
theorem dI (x y z : Int) (w : World) :
  Calls Tryz.prog 104 #[.agg #[.int .i64 x, .int .i64 y, .int .i64 z]] w fun e w' => e = .returned (.bool (aH x y z)) ∧ Below w.heap.size w w' := by
 go_enter Tryz.func104, Tryz.ntmps104
 go_wp2_with fail
 refine (bt x y z _).mono ?_
 rintro e w1 ⟨rfl, hB1⟩
 have hB : Below w.heap.size w w1 := aj (ak _ _) hB1
 have va : aB w1 w.heap.size x y z := (aA w x y z _).kept (by simp) hB1
 clear hB1
 obtain ⟨ca0, ca1, ca2⟩ := va
 cases ha : aq x y z
 ·go_wp2_with fail
  go_ret
  exact ⟨by simp [aH, ha], hB⟩
 ·go_wp2_with fail
  refine (iC 10 x y z _ (by omega) (by omega)).mono ?_
  rintro e w2 ⟨rfl, hB2⟩
  replace hB := aj hB hB2
  go_wp2_with fail
  go_ret
  exact ⟨by simp [aH, ha], hB⟩
theorem lz (n : Int) (w : World) :
  Calls Tryz.prog 107 #[.int .i64 n] w fun e w' => e = .returned (.int .i64 (kl n)) ∧ w' = w := by
 by_cases h : n < 0
 ·have HS := yz (show kl n = wrap64 (wrap64 (-n) * n) by unfold kl; rw [if_pos h])
  go_enter Tryz.func107, Tryz.ntmps107
  go_wp2
  go_ret
  exact ⟨by rw [yy HS]; rfl, rfl⟩
 ·have HS := yz (show kl n = wrap64 (n * n) by unfold kl; rw [if_neg h])
  go_enter Tryz.func107, Tryz.ntmps107
  go_wp2
  go_ret
  exact ⟨by rw [yy HS]; rfl, rfl⟩
theorem ju (a b : Int) (w : World) :
  Calls Tryz.prog 95 #[.int .i64 a, .int .i64 b] w fun e w' => e = .returned (.int .i64 (dD a b)) ∧ w' = w := by
 by_cases h : a < b
 ·have HS := yz (show dD a b = -1 by unfold dD; rw [if_pos h])
  go_enter Tryz.func95, Tryz.ntmps95
  go_wp2
  go_ret
  exact ⟨by rw [yy HS]; rfl, rfl⟩
 ·by_cases h2 : b < a
  ·have HS := yz (show dD a b = 1 by unfold dD; rw [if_neg h, if_pos h2])
   go_enter Tryz.func95, Tryz.ntmps95
   go_wp2
   go_ret
   exact ⟨by rw [yy HS]; rfl, rfl⟩
  ·have HS := yz (show dD a b = 0 by unfold dD; rw [if_neg h, if_neg h2])
   go_enter Tryz.func95, Tryz.ntmps95
   go_wp2
   go_ret
   exact ⟨by rw [yy HS]; rfl, rfl⟩
theorem jM (a1 a2 a3 b1 b2 b3 : Int) (w : World) :
  Calls Tryz.prog 108 #[.func (.func 109) #[.agg #[.int .i64 a1, .int .i64 a2, .int .i64 a3]] #[], .func (.func 109) #[.agg #[.int .i64 b1, .int .i64 b2, .int .i64 b3]] #[]] w fun e w' => e = .returned (.int .i64 (wrap64 (bf a1 a2 a3 a1 a2 a3 * bf b1 b2 b3 b1 b2 b3))) ∧ Below w.heap.size w w' := by
 go_enter Tryz.func108, Tryz.ntmps108
 go_wp2_with fail
 refine (lF a1 a2 a3 _).mono ?_
 rintro e w1 ⟨rfl, hB1⟩
 go_wp2_with fail
 refine (lF b1 b2 b3 _).mono ?_
 rintro e w2 ⟨rfl, hB2⟩
 go_wp2_with fail
 go_ret
 exact ⟨rfl, aj hB1 hB2⟩
theorem dM {x y z : Int} (h : bz x y z = true) : aq x y z = true ∧ aF 1800 x y z = true := by simpa [bz] using h
theorem dk {x y z : Int} (h : aH x y z = true) : aq x y z = true ∧ aF 10 x y z = true := by simpa [aH] using h
theorem tX {a1 a2 a3 b1 b2 b3 c1 c2 c3 d1 d2 d3 : Int} (ha : bz a1 a2 a3 = true) (hb : bz b1 b2 b3 = true) (hc : aH c1 c2 c3 = true) (hd : aH d1 d2 d3 = true) :
  iq a1 a2 a3 b1 b2 b3 c1 c2 c3 d1 d2 d3 = dD (wrap64 (kl (mZ a1 a2 a3 b1 b2 b3) * wrap64 (bf c1 c2 c3 c1 c2 c3 * bf d1 d2 d3 d1 d2 d3))) (wrap64 (kl (mZ c1 c2 c3 d1 d2 d3) * wrap64 (bf a1 a2 a3 a1 a2 a3 * bf b1 b2 b3 b1 b2 b3))) := by
 have h := rS (dM ha).2 (dM hb).2 (dk hc).2 (dk hd).2
 unfold iq mZ
 rw [(dM ha).1, (dM hb).1, (dk hc).1, (dk hd).1, ha, hb, hc, hd, if_pos (by rfl), if_pos (by rfl), if_pos (by rfl), h.1, h.2]
theorem Calls.regrown_same {P : Program} {f : FuncId} {args : Array Value} {w : World} {d : Nat} {os : Array Obj} {v : Value}
  (h : Calls P f args (grow (redrawn w d) os) fun e w' => e = .returned v ∧ w' = grow (redrawn w d) os) : Calls P f args (grow (redrawn w d) os) fun e w'' => e = .returned v ∧ ∃ p : Regrown, w'' = grow (redrawn w p.d) p.os :=
 h.mono fun _ _ ⟨he, hm⟩ => ⟨he, ⟨d, os⟩, hm⟩
theorem pw (a1 a2 a3 b1 b2 b3 c1 c2 c3 d1 d2 d3 : Int) (w : World) :
  Calls Tryz.prog 94 #[.agg #[.int .i64 a1, .int .i64 a2, .int .i64 a3], .agg #[.int .i64 b1, .int .i64 b2, .int .i64 b3], .agg #[.int .i64 c1, .int .i64 c2, .int .i64 c3], .agg #[.int .i64 d1, .int .i64 d2, .int .i64 d3]] w fun e w' => e = .returned (.int .i64 (iq a1 a2 a3 b1 b2 b3 c1 c2 c3 d1 d2 d3)) ∧ Below w.heap.size w w' := by
 go_enter Tryz.func94, Tryz.ntmps94
 go_wp2_with fail
 refine (fF a1 a2 a3 _).mono ?_
 rintro e w1 ⟨rfl, hB1⟩
 have hB : Below w.heap.size w w1 := aj (rQ _ _ _ _ _) hB1
 have hs : w.heap.size + 4 ≤ w1.heap.size := by have := hB1.size; simpa [Nat.add_assoc] using this
 have va : aB w1 w.heap.size a1 a2 a3 := ((((by simpa using aA w a1 a2 a3 _ : aB _ w.heap.size a1 a2 a3).alloc (by simp <;> omega) _).alloc (by simp <;> omega) _).alloc (by simp <;> omega) _).kept (by simp <;> omega) hB1
 have vb : aB w1 (w.heap.size + 1) b1 b2 b3 := (((by simpa using aA (w.alloc _) b1 b2 b3 _ : aB _ (w.heap.size + 1) b1 b2 b3).alloc (by simp <;> omega) _).alloc (by simp <;> omega) _).kept (by simp <;> omega) hB1
 have vc : aB w1 (w.heap.size + 1 + 1) c1 c2 c3 := ((by simpa using aA ((w.alloc _).alloc _) c1 c2 c3 _ : aB _ (w.heap.size + 1 + 1) c1 c2 c3).alloc (by simp <;> omega) _).kept (by simp <;> omega) hB1
 have vd : aB w1 (w.heap.size + 1 + 1 + 1) d1 d2 d3 := (by simpa using aA (((w.alloc _).alloc _).alloc _) d1 d2 d3 _ : aB _ (w.heap.size + 1 + 1 + 1) d1 d2 d3).kept (by simp <;> omega) hB1
 clear hB1
 have hva := va
 obtain ⟨ca0, ca1, ca2⟩ := va
 have hvb := vb
 obtain ⟨cb0, cb1, cb2⟩ := vb
 have hvc := vc
 obtain ⟨cc0, cc1, cc2⟩ := vc
 have hvd := vd
 obtain ⟨cd0, cd1, cd2⟩ := vd
 cases ha : bz a1 a2 a3
 ·go_wp2_with fail
  go_ret
  exact ⟨by simp [iq, ha], hB⟩
 ·go_wp2_with fail
  refine (fF b1 b2 b3 _).mono ?_
  rintro e w2 ⟨rfl, hB2⟩
  have va := hva.kept (by omega) hB2
  have vb := hvb.kept (by omega) hB2
  have vc := hvc.kept (by omega) hB2
  have vd := hvd.kept (by omega) hB2
  replace hs : w.heap.size + 4 ≤ w2.heap.size := by have := hB2.size; omega
  replace hB : Below w.heap.size w w2 := aj hB hB2
  clear hva ca0 ca1 ca2 hvb cb0 cb1 cb2 hvc cc0 cc1 cc2 hvd cd0 cd1 cd2
  clear hB2
  have hva := va
  obtain ⟨ca0, ca1, ca2⟩ := va
  have hvb := vb
  obtain ⟨cb0, cb1, cb2⟩ := vb
  have hvc := vc
  obtain ⟨cc0, cc1, cc2⟩ := vc
  have hvd := vd
  obtain ⟨cd0, cd1, cd2⟩ := vd
  cases hb : bz b1 b2 b3
  ·go_wp2_with fail
   go_ret
   exact ⟨by simp [iq, hb], hB⟩
  ·go_wp2_with fail
   refine (dI c1 c2 c3 _).mono ?_
   rintro e w3 ⟨rfl, hB3⟩
   have va := hva.kept (by omega) hB3
   have vb := hvb.kept (by omega) hB3
   have vc := hvc.kept (by omega) hB3
   have vd := hvd.kept (by omega) hB3
   replace hs : w.heap.size + 4 ≤ w3.heap.size := by have := hB3.size; omega
   replace hB : Below w.heap.size w w3 := aj hB hB3
   clear hva ca0 ca1 ca2 hvb cb0 cb1 cb2 hvc cc0 cc1 cc2 hvd cd0 cd1 cd2
   clear hB3
   have hva := va
   obtain ⟨ca0, ca1, ca2⟩ := va
   have hvb := vb
   obtain ⟨cb0, cb1, cb2⟩ := vb
   have hvc := vc
   obtain ⟨cc0, cc1, cc2⟩ := vc
   have hvd := vd
   obtain ⟨cd0, cd1, cd2⟩ := vd
   cases hc : aH c1 c2 c3
   ·go_wp2_with fail
    go_ret
    exact ⟨by simp [iq, hc], hB⟩
   ·go_wp2_with fail
    refine (dI d1 d2 d3 _).mono ?_
    rintro e w4 ⟨rfl, hB4⟩
    have va := hva.kept (by omega) hB4
    have vb := hvb.kept (by omega) hB4
    have vc := hvc.kept (by omega) hB4
    have vd := hvd.kept (by omega) hB4
    replace hs : w.heap.size + 4 ≤ w4.heap.size := by have := hB4.size; omega
    replace hB : Below w.heap.size w w4 := aj hB hB4
    clear hva ca0 ca1 ca2 hvb cb0 cb1 cb2 hvc cc0 cc1 cc2 hvd cd0 cd1 cd2
    clear hB4
    have hva := va
    obtain ⟨ca0, ca1, ca2⟩ := va
    have hvb := vb
    obtain ⟨cb0, cb1, cb2⟩ := vb
    have hvc := vc
    obtain ⟨cc0, cc1, cc2⟩ := vc
    have hvd := vd
    obtain ⟨cd0, cd1, cd2⟩ := vd
    cases hd : aH d1 d2 d3
    ·go_wp2_with fail
     go_ret
     exact ⟨by simp [iq, hd], hB⟩
    ·go_wp2_with fail
     have HD := yz (tX ha hb hc hd)
     have ka0 := cell_regrown ca0
     have ka1 := cell_regrown ca1
     have ka2 := cell_regrown ca2
     have kb0 := cell_regrown cb0
     have kb1 := cell_regrown cb1
     have kb2 := cell_regrown cb2
     have kc0 := cell_regrown cc0
     have kc1 := cell_regrown cc1
     have kc2 := cell_regrown cc2
     have kd0 := cell_regrown cd0
     have kd1 := cell_regrown cd1
     have kd2 := cell_regrown cd2
     refine wp_region_quiet_below (by kernel_rfl) (by kernel_rfl) ?_
     repeat (quiet_step (first | exact Calls.regrown_of (na _ _ _ _ _ _ _) | exact Calls.regrown_same (lz _ _) | exact Calls.regrown_of (jM _ _ _ _ _ _ _)))
     refine wpQuiet_nil ?_
     intro _ hw'
     obtain ⟨⟨dq, osq⟩, hw''⟩ := hw'
     subst hw''
     have hb' := below_regrown w4 dq osq
     replace hB := aj hB hb'
     have va := hva.kept (by omega) hb'
     have vb := hvb.kept (by omega) hb'
     have vc := hvc.kept (by omega) hb'
     have vd := hvd.kept (by omega) hb'
     clear ca0 ka0 ca1 ka1 ca2 ka2 cb0 kb0 cb1 kb1 cb2 kb2 cc0 kc0 cc1 kc1 cc2 kc2 cd0 kd0 cd1 kd1 cd2 kd2
     generalize grow (redrawn w4 dq) osq = w5 at hB hb' va vb vc vd ⊢
     obtain ⟨ca0, ca1, ca2⟩ := va
     obtain ⟨cb0, cb1, cb2⟩ := vb
     obtain ⟨cc0, cc1, cc2⟩ := vc
     obtain ⟨cd0, cd1, cd2⟩ := vd
     clear hb' hva hvb hvc hvd
     go_wp2_with fail
     have ka0 := cell_regrown ca0
     have ka1 := cell_regrown ca1
     have ka2 := cell_regrown ca2
     have kb0 := cell_regrown cb0
     have kb1 := cell_regrown cb1
     have kb2 := cell_regrown cb2
     have kc0 := cell_regrown cc0
     have kc1 := cell_regrown cc1
     have kc2 := cell_regrown cc2
     have kd0 := cell_regrown cd0
     have kd1 := cell_regrown cd1
     have kd2 := cell_regrown cd2
     refine wp_region_quiet_below (by kernel_rfl) (by kernel_rfl) ?_
     repeat (quiet_step (first | exact Calls.regrown_of (na _ _ _ _ _ _ _) | exact Calls.regrown_same (lz _ _) | exact Calls.regrown_of (jM _ _ _ _ _ _ _)))
     refine wpQuiet_nil ?_
     intro _ hw'
     obtain ⟨⟨dq, osq⟩, hw''⟩ := hw'
     subst hw''
     replace hB := aj hB (below_regrown w5 dq osq)
     clear ca0 ka0 ca1 ka1 ca2 ka2 cb0 kb0 cb1 kb1 cb2 kb2 cc0 kc0 cc1 kc1 cc2 kc2 cd0 kd0 cd1 kd1 cd2 kd2
     go_wp2_with fail
     refine (ju _ _ _).mono ?_
     rintro e w7 ⟨rfl, rfl⟩
     go_wp2_with fail
     go_ret
     exact ⟨by rw [yy HD]; rfl, hB⟩
theorem aB.in {w : World} {b : Nat} {x y z : Int} (h : aB w b x y z) : b < w.heap.size := World.block_lt_of_cell? w _ h.1
theorem cj (n : Int) (w : World) :
  Calls Tryz.prog 98 #[.int .i64 n] w fun e w' => e = .returned (.int .i64 (sgn n)) ∧ w' = w := by
 by_cases h : n < 0
 ·have HS := yz (show sgn n = -1 by unfold sgn; rw [if_pos h])
  go_enter Tryz.func98, Tryz.ntmps98
  go_wp2
  go_ret
  exact ⟨by rw [yy HS]; rfl, rfl⟩
 ·by_cases h2 : 0 < n
  ·have HS := yz (show sgn n = 1 by unfold sgn; rw [if_neg h, if_pos h2])
   go_enter Tryz.func98, Tryz.ntmps98
   go_wp2
   go_ret
   exact ⟨by rw [yy HS]; rfl, rfl⟩
  ·have HS := yz (show sgn n = 0 by unfold sgn; rw [if_neg h, if_neg h2])
   go_enter Tryz.func98, Tryz.ntmps98
   go_wp2
   go_ret
   exact ⟨by rw [yy HS]; rfl, rfl⟩
theorem pF (a1 a2 a3 b1 b2 b3 c1 c2 c3 d1 d2 d3 : Int) (w : World) :
  Calls Tryz.prog 97 #[.agg #[.int .i64 a1, .int .i64 a2, .int .i64 a3], .agg #[.int .i64 b1, .int .i64 b2, .int .i64 b3], .agg #[.int .i64 c1, .int .i64 c2, .int .i64 c3], .agg #[.int .i64 d1, .int .i64 d2, .int .i64 d3]] w fun e w' => e = .returned (.int .i64 (kF (bf a1 a2 a3 b1 b2 b3) (bf c1 c2 c3 d1 d2 d3) (wrap64 (wrap64 (bf a1 a2 a3 b1 b2 b3 * bf a1 a2 a3 b1 b2 b3) * wrap64 (bf c1 c2 c3 c1 c2 c3 * bf d1 d2 d3 d1 d2 d3))) (wrap64 (wrap64 (bf c1 c2 c3 d1 d2 d3 * bf c1 c2 c3 d1 d2 d3) * wrap64 (bf a1 a2 a3 a1 a2 a3 * bf b1 b2 b3 b1 b2 b3))))) ∧ Below w.heap.size w w' := by
 go_enter Tryz.func97, Tryz.ntmps97
 go_wp2_with fail
 have va : aB ((((w.alloc (.cells #[.int .i64 a1, .int .i64 a2, .int .i64 a3] 67)).alloc (.cells #[.int .i64 b1, .int .i64 b2, .int .i64 b3] 67)).alloc (.cells #[.int .i64 c1, .int .i64 c2, .int .i64 c3] 67)).alloc (.cells #[.int .i64 d1, .int .i64 d2, .int .i64 d3] 67)) w.heap.size a1 a2 a3 := ((((by simpa using aA w a1 a2 a3 67 : aB (w.alloc (.cells #[.int .i64 a1, .int .i64 a2, .int .i64 a3] 67)) w.heap.size a1 a2 a3).alloc (by simp <;> omega) _).alloc (by simp <;> omega) _).alloc (by simp <;> omega) _)
 have vb : aB ((((w.alloc (.cells #[.int .i64 a1, .int .i64 a2, .int .i64 a3] 67)).alloc (.cells #[.int .i64 b1, .int .i64 b2, .int .i64 b3] 67)).alloc (.cells #[.int .i64 c1, .int .i64 c2, .int .i64 c3] 67)).alloc (.cells #[.int .i64 d1, .int .i64 d2, .int .i64 d3] 67)) (w.heap.size + 1) b1 b2 b3 := (((by simpa using aA (w.alloc (.cells #[.int .i64 a1, .int .i64 a2, .int .i64 a3] 67)) b1 b2 b3 67 : aB ((w.alloc (.cells #[.int .i64 a1, .int .i64 a2, .int .i64 a3] 67)).alloc (.cells #[.int .i64 b1, .int .i64 b2, .int .i64 b3] 67)) (w.heap.size + 1) b1 b2 b3).alloc (by simp <;> omega) _).alloc (by simp <;> omega) _)
 have vc : aB ((((w.alloc (.cells #[.int .i64 a1, .int .i64 a2, .int .i64 a3] 67)).alloc (.cells #[.int .i64 b1, .int .i64 b2, .int .i64 b3] 67)).alloc (.cells #[.int .i64 c1, .int .i64 c2, .int .i64 c3] 67)).alloc (.cells #[.int .i64 d1, .int .i64 d2, .int .i64 d3] 67)) (w.heap.size + 1 + 1) c1 c2 c3 := ((by simpa using aA ((w.alloc (.cells #[.int .i64 a1, .int .i64 a2, .int .i64 a3] 67)).alloc (.cells #[.int .i64 b1, .int .i64 b2, .int .i64 b3] 67)) c1 c2 c3 67 : aB (((w.alloc (.cells #[.int .i64 a1, .int .i64 a2, .int .i64 a3] 67)).alloc (.cells #[.int .i64 b1, .int .i64 b2, .int .i64 b3] 67)).alloc (.cells #[.int .i64 c1, .int .i64 c2, .int .i64 c3] 67)) (w.heap.size + 1 + 1) c1 c2 c3).alloc (by simp <;> omega) _)
 have vd : aB ((((w.alloc (.cells #[.int .i64 a1, .int .i64 a2, .int .i64 a3] 67)).alloc (.cells #[.int .i64 b1, .int .i64 b2, .int .i64 b3] 67)).alloc (.cells #[.int .i64 c1, .int .i64 c2, .int .i64 c3] 67)).alloc (.cells #[.int .i64 d1, .int .i64 d2, .int .i64 d3] 67)) (w.heap.size + 1 + 1 + 1) d1 d2 d3 := (by simpa using aA (((w.alloc (.cells #[.int .i64 a1, .int .i64 a2, .int .i64 a3] 67)).alloc (.cells #[.int .i64 b1, .int .i64 b2, .int .i64 b3] 67)).alloc (.cells #[.int .i64 c1, .int .i64 c2, .int .i64 c3] 67)) d1 d2 d3 67 : aB ((((w.alloc (.cells #[.int .i64 a1, .int .i64 a2, .int .i64 a3] 67)).alloc (.cells #[.int .i64 b1, .int .i64 b2, .int .i64 b3] 67)).alloc (.cells #[.int .i64 c1, .int .i64 c2, .int .i64 c3] 67)).alloc (.cells #[.int .i64 d1, .int .i64 d2, .int .i64 d3] 67)) (w.heap.size + 1 + 1 + 1) d1 d2 d3)
 have hB : Below w.heap.size w ((((w.alloc (.cells #[.int .i64 a1, .int .i64 a2, .int .i64 a3] 67)).alloc (.cells #[.int .i64 b1, .int .i64 b2, .int .i64 b3] 67)).alloc (.cells #[.int .i64 c1, .int .i64 c2, .int .i64 c3] 67)).alloc (.cells #[.int .i64 d1, .int .i64 d2, .int .i64 d3] 67)) := rQ _ _ _ _ _
 generalize ((((w.alloc (.cells #[.int .i64 a1, .int .i64 a2, .int .i64 a3] 67)).alloc (.cells #[.int .i64 b1, .int .i64 b2, .int .i64 b3] 67)).alloc (.cells #[.int .i64 c1, .int .i64 c2, .int .i64 c3] 67)).alloc (.cells #[.int .i64 d1, .int .i64 d2, .int .i64 d3] 67)) = w1 at va vb vc vd hB ⊢
 have ha := va
 have hb := vb
 have hc := vc
 have hd := vd
 obtain ⟨ca0, ca1, ca2⟩ := va
 obtain ⟨cb0, cb1, cb2⟩ := vb
 obtain ⟨cc0, cc1, cc2⟩ := vc
 obtain ⟨cd0, cd1, cd2⟩ := vd
 refine (dC a1 a2 a3 b1 b2 b3 _).mono ?_
 rintro e w2 ⟨rfl, hx⟩
 have va := ha.kept (aB.in ha) hx
 have vb := hb.kept (aB.in hb) hx
 have vc := hc.kept (aB.in hc) hx
 have vd := hd.kept (aB.in hd) hx
 replace hB := aj hB hx
 clear ca0 ca1 ca2 cb0 cb1 cb2 cc0 cc1 cc2 cd0 cd1 cd2 ha hb hc hd hx
 have ha := va
 have hb := vb
 have hc := vc
 have hd := vd
 obtain ⟨ca0, ca1, ca2⟩ := va
 obtain ⟨cb0, cb1, cb2⟩ := vb
 obtain ⟨cc0, cc1, cc2⟩ := vc
 obtain ⟨cd0, cd1, cd2⟩ := vd
 go_wp2_with fail
 refine (dC c1 c2 c3 d1 d2 d3 _).mono ?_
 rintro e w3 ⟨rfl, hx⟩
 have va := ha.kept (aB.in ha) hx
 have vb := hb.kept (aB.in hb) hx
 have vc := hc.kept (aB.in hc) hx
 have vd := hd.kept (aB.in hd) hx
 replace hB := aj hB hx
 clear ca0 ca1 ca2 cb0 cb1 cb2 cc0 cc1 cc2 cd0 cd1 cd2 ha hb hc hd hx
 have ha := va
 have hb := vb
 have hc := vc
 have hd := vd
 obtain ⟨ca0, ca1, ca2⟩ := va
 obtain ⟨cb0, cb1, cb2⟩ := vb
 obtain ⟨cc0, cc1, cc2⟩ := vc
 obtain ⟨cd0, cd1, cd2⟩ := vd
 generalize hxe : bf a1 a2 a3 b1 b2 b3 = x
 generalize hye : bf c1 c2 c3 d1 d2 d3 = y
 have HX := yz hxe
 have HY := yz hye
 clear hxe hye
 go_wp2_with fail
 refine (cj x _).mono ?_
 rintro e w3 ⟨rfl, rfl⟩
 go_wp2_with fail
 refine (cj y _).mono ?_
 rintro e w3 ⟨rfl, rfl⟩
 by_cases hs : sgn x = sgn y
 ·have hse : (sgn x == sgn y) = true := by simp [hs]
  go_wp2_with fail
  have kc0 := cell_regrown cc0
  have kc1 := cell_regrown cc1
  have kc2 := cell_regrown cc2
  have kd0 := cell_regrown cd0
  have kd1 := cell_regrown cd1
  have kd2 := cell_regrown cd2
  refine wp_region_quiet_below (by kernel_rfl) (by kernel_rfl) ?_
  repeat (quiet_step (first | exact Calls.regrown_of (dC _ _ _ _ _ _ _) | fail))
  refine wpQuiet_nil ?_
  intro _ hw'
  obtain ⟨⟨dq, osq⟩, hw''⟩ := hw'
  subst hw''
  have hx := below_regrown w3 dq osq
  generalize grow (redrawn w3 dq) osq = w4 at hx ⊢
  clear kc0 kc1 kc2 kd0 kd1 kd2
  have va := ha.kept (aB.in ha) hx
  have vb := hb.kept (aB.in hb) hx
  have vc := hc.kept (aB.in hc) hx
  have vd := hd.kept (aB.in hd) hx
  replace hB := aj hB hx
  clear ca0 ca1 ca2 cb0 cb1 cb2 cc0 cc1 cc2 cd0 cd1 cd2 ha hb hc hd hx
  have ha := va
  have hb := vb
  have hc := vc
  have hd := vd
  obtain ⟨ca0, ca1, ca2⟩ := va
  obtain ⟨cb0, cb1, cb2⟩ := vb
  obtain ⟨cc0, cc1, cc2⟩ := vc
  obtain ⟨cd0, cd1, cd2⟩ := vd
  go_wp2_with fail
  have ka0 := cell_regrown ca0
  have ka1 := cell_regrown ca1
  have ka2 := cell_regrown ca2
  have kb0 := cell_regrown cb0
  have kb1 := cell_regrown cb1
  have kb2 := cell_regrown cb2
  refine wp_region_quiet_below (by kernel_rfl) (by kernel_rfl) ?_
  repeat (quiet_step (first | exact Calls.regrown_of (dC _ _ _ _ _ _ _) | fail))
  refine wpQuiet_nil ?_
  intro _ hw'
  obtain ⟨⟨dq, osq⟩, hw''⟩ := hw'
  subst hw''
  have hx := below_regrown w4 dq osq
  generalize grow (redrawn w4 dq) osq = w5 at hx ⊢
  clear ka0 ka1 ka2 kb0 kb1 kb2
  have va := ha.kept (aB.in ha) hx
  have vb := hb.kept (aB.in hb) hx
  have vc := hc.kept (aB.in hc) hx
  have vd := hd.kept (aB.in hd) hx
  replace hB := aj hB hx
  clear ca0 ca1 ca2 cb0 cb1 cb2 cc0 cc1 cc2 cd0 cd1 cd2 ha hb hc hd hx
  have ha := va
  have hb := vb
  have hc := vc
  have hd := vd
  obtain ⟨ca0, ca1, ca2⟩ := va
  obtain ⟨cb0, cb1, cb2⟩ := vb
  obtain ⟨cc0, cc1, cc2⟩ := vc
  obtain ⟨cd0, cd1, cd2⟩ := vd
  clear ha hb hc hd ca0 ca1 ca2 cb0 cb1 cb2 cc0 cc1 cc2 cd0 cd1 cd2
  simp only [Go.IntWalk.i64_left]
  generalize hpe : wrap64 (wrap64 (x * x) * wrap64 (bf c1 c2 c3 c1 c2 c3 * bf d1 d2 d3 d1 d2 d3)) = p
  generalize hqe : wrap64 (wrap64 (y * y) * wrap64 (bf a1 a2 a3 a1 a2 a3 * bf b1 b2 b3 b1 b2 b3)) = q
  have HP := yz hpe
  have HQ := yz hqe
  have HS := yz hs
  clear hpe hqe
  by_cases h1 : p < q
  ·have HE := yz (show kF x y p q = wrap64 (-sgn x) by unfold kF; rw [if_neg (by simp [hs]), if_pos h1])
   clear hs hse
   go_wp2_with fail
   refine (cj x _).mono ?_
   rintro e w5 ⟨rfl, rfl⟩
   go_wp2_with fail
   go_ret
   exact ⟨by rw [yy HX, yy HY, yy HP, yy HQ, yy HE]; rfl, hB⟩
  ·by_cases h2 : q < p
   ·have HE := yz (show kF x y p q = sgn x by unfold kF; rw [if_neg (by simp [hs]), if_neg h1, if_pos h2])
    clear hs hse
    go_wp2_with fail
    refine (cj x _).mono ?_
    rintro e w5 ⟨rfl, rfl⟩
    go_wp2_with fail
    go_ret
    exact ⟨by rw [yy HX, yy HY, yy HP, yy HQ, yy HE]; rfl, hB⟩
   ·have HE := yz (show kF x y p q = 0 by unfold kF; rw [if_neg (by simp [hs]), if_neg h1, if_neg h2])
    clear hs hse
    go_wp2_with fail
    go_ret
    exact ⟨by rw [yy HX, yy HY, yy HP, yy HQ, yy HE]; rfl, hB⟩
 ·have hse : (sgn x == sgn y) = false := by simp [hs]
  go_wp2_with fail
  refine (cj x _).mono ?_
  rintro e w3 ⟨rfl, rfl⟩
  go_wp2_with fail
  refine (cj y _).mono ?_
  rintro e w3 ⟨rfl, rfl⟩
  go_wp2_with fail
  refine (cj _ _).mono ?_
  rintro e w3 ⟨rfl, rfl⟩
  go_wp2_with fail
  go_ret
  exact ⟨by unfold kF; rw [yy HX, yy HY, if_pos hs]; rfl, hB⟩
theorem qG {p q r P Q : Int} (h1 : -P ≤ p ∧ p ≤ P) (h2 : -Q ≤ q ∧ q ≤ Q) (h3 : -Q ≤ r ∧ r ≤ Q) (k1 : P * P ≤ 9223372036854775807) (k3 : Q * Q ≤ 9223372036854775807) (k4 : (P * P) * (Q * Q) ≤ 9223372036854775807) :
  wrap64 (wrap64 (p * p) * wrap64 (q * r)) = p * p * (q * r) := by
 have m1 := bW h1 h1
 have m2 := bW h2 h3
 have m3 := bW m1 m2
 rw [ay (n := p * p) (by omega) (by omega), ay (n := q * r) (by omega) (by omega), ay (by omega) (by omega)]
theorem te {a1 a2 a3 b1 b2 b3 c1 c2 c3 d1 d2 d3 : Int} (ha : bz a1 a2 a3 = true) (hb : bz b1 b2 b3 = true) (hc : aH c1 c2 c3 = true) (hd : aH d1 d2 d3 = true) :
  iq a1 a2 a3 b1 b2 b3 c1 c2 c3 d1 d2 d3 = kF (bf a1 a2 a3 b1 b2 b3) (bf c1 c2 c3 d1 d2 d3) (wrap64 (wrap64 (bf a1 a2 a3 b1 b2 b3 * bf a1 a2 a3 b1 b2 b3) * wrap64 (bf c1 c2 c3 c1 c2 c3 * bf d1 d2 d3 d1 d2 d3))) (wrap64 (wrap64 (bf c1 c2 c3 d1 d2 d3 * bf c1 c2 c3 d1 d2 d3) * wrap64 (bf a1 a2 a3 a1 a2 a3 * bf b1 b2 b3 b1 b2 b3))) := by
 have wa := (dM ha).2
 have wb := (dM hb).2
 have wc := (dk hc).2
 have wd := (dk hd).2
 have pa := eV (aI.1 (dM ha).1).2
 have pb := eV (aI.1 (dM hb).1).2
 have pc := eV (aI.1 (dk hc).1).2
 have pd := eV (aI.1 (dk hd).1).2
 unfold iq
 rw [ha, hb, hc, hd, if_pos (by rfl)]
 rw [bK wa wb (by omega), bK wc wc (by omega), bK wd wd (by omega), bK wc wd (by omega), bK wa wa (by omega), bK wb wb (by omega)]
 have x1 := bA wa wb
 have x2 := bA wc wc
 have x3 := bA wd wd
 have x4 := bA wc wd
 have x5 := bA wa wa
 have x6 := bA wb wb
 rw [qG (P := 9720000) (Q := 300) (by omega) (by omega) (by omega) (by omega) (by omega) (by omega), qG (P := 300) (Q := 9720000) (by omega) (by omega) (by omega) (by omega) (by omega) (by omega)]
 exact (rT (Int.mul_pos pc pd) (Int.mul_pos pa pb)).symm
end
section
open Go.RowKit
theorem oX {a b : Int} (h : b ≠ 0) (hb : -1000000 ≤ b ∧ b ≤ 1000000) : wrap64 (a.tmod b) = a.tmod b ∧ -1000000 ≤ a.tmod b ∧ a.tmod b ≤ 1000000 := by
 have := nZ a b h
 have h2 : -1000000 ≤ a.tmod b ∧ a.tmod b ≤ 1000000 := by omega
 exact ⟨ay (by omega) (by omega), h2⟩
theorem bL (w : World) (n : Nat) : Below w.heap.size w (w.drewN n) := ⟨rfl, rfl, rfl, Nat.le_refl _, fun _ _ => rfl⟩
theorem dE (a b : Int) (w : World) (ha : -1000000 ≤ a ∧ a ≤ 1000000) (hb : -1000000 ≤ b ∧ b ≤ 1000000) :
  Calls Tryz.prog 100 #[.int .i64 a, .int .i64 b] w fun e w' => e = .returned (.int .i64 ((Int.gcd a b : Nat) : Int)) ∧ ∃ n, w' = w.drewN n := by
 go_enter Tryz.func100, Tryz.ntmps100
 go_wp2
 go_loopw [0, 1] (fun u v wr => ∃ p q : Int, u = .int .i64 p ∧ v = .int .i64 q ∧ Hid (-1000000 ≤ p ∧ p ≤ 1000000) ∧ Hid (-1000000 ≤ q ∧ q ≤ 1000000) ∧ Hid (Int.gcd p q = Int.gcd a b) ∧ ∃ n, wr = w.drewN n) (fun _ v _ => (intOf v).natAbs)
 case atStart => exact ⟨a, b, rfl, rfl, yz ha, yz hb, yz rfl, 0, rfl⟩
 case round =>
  obtain ⟨p, q, rfl, rfl, hp, hq, hg, nd, rfl⟩ := hrel
  by_cases h0 : q = 0
  ·subst h0
   have HG := yz (oC p)
   by_cases hn : p < 0
   ·have HW : Hid (wrap64 (-p) = -p) := yz (by have := yy hp; exact ay (by omega) (by omega))
    have HR := yz (show ((Int.gcd a b : Nat) : Int) = -p by rw [← yy hg, yy HG, if_pos hn])
    go_wp2
    go_ret
    exact ⟨by rw [yy HR]; exact congrArg (fun x => Ending.returned (Value.int .i64 x)) (yy HW), nd, rfl⟩
   ·have HR := yz (show ((Int.gcd a b : Nat) : Int) = p by rw [← yy hg, yy HG, if_neg hn])
    go_wp2
    go_ret
    exact ⟨by rw [yy HR]; rfl, nd, rfl⟩
  ·have hz : (q == 0) = false := by simp [h0]
   have hr := oX (a := p) h0 (yy hq)
   have HL := yz (nZ p q h0)
   have HS := yz (oB p q)
   obtain ⟨r, hre⟩ : ∃ r, p.tmod q = r := ⟨_, rfl⟩
   have hrw := hr.1
   have HRB := yz hr.2
   rw [hre] at hrw HRB HL HS
   clear hr
   go_wp2
   go_region
   go_wp2
   go_roundw
   case rel => exact ⟨q, r, rfl, rfl, hq, HRB, yz ((yy HS).trans (yy hg)), nd + 1, rfl⟩
   case measure => simp [intOf]; exact yy HL
theorem eR (a b : Int) (w : World) (ha : -1000000 ≤ a ∧ a ≤ 1000000) (hb : -1000000 ≤ b ∧ b ≤ 1000000) :
  Calls Tryz.prog 86 #[.int .i64 a, .int .i64 b] w fun e w' => e = .returned (.int .i64 ((Int.gcd a b : Nat) : Int)) ∧ ∃ n, w' = w.drewN n := by
 go_enter Tryz.func86, Tryz.ntmps86
 go_wp2
 go_loopw [0, 1] (fun u v wr => ∃ p q : Int, u = .int .i64 p ∧ v = .int .i64 q ∧ Hid (-1000000 ≤ p ∧ p ≤ 1000000) ∧ Hid (-1000000 ≤ q ∧ q ≤ 1000000) ∧ Hid (Int.gcd p q = Int.gcd a b) ∧ ∃ n, wr = w.drewN n) (fun _ v _ => (intOf v).natAbs)
 case atStart => exact ⟨a, b, rfl, rfl, yz ha, yz hb, yz rfl, 0, rfl⟩
 case round =>
  obtain ⟨p, q, rfl, rfl, hp, hq, hg, nd, rfl⟩ := hrel
  by_cases h0 : q = 0
  ·subst h0
   have HG := yz (oC p)
   by_cases hn : p < 0
   ·have HW : Hid (wrap64 (-p) = -p) := yz (by have := yy hp; exact ay (by omega) (by omega))
    have HR := yz (show ((Int.gcd a b : Nat) : Int) = -p by rw [← yy hg, yy HG, if_pos hn])
    go_wp2
    go_ret
    exact ⟨by rw [yy HR]; exact congrArg (fun x => Ending.returned (Value.int .i64 x)) (yy HW), nd, rfl⟩
   ·have HR := yz (show ((Int.gcd a b : Nat) : Int) = p by rw [← yy hg, yy HG, if_neg hn])
    go_wp2
    go_ret
    exact ⟨by rw [yy HR]; rfl, nd, rfl⟩
  ·have hz : (q == 0) = false := by simp [h0]
   have hr := oX (a := p) h0 (yy hq)
   have HL := yz (nZ p q h0)
   have HS := yz (oB p q)
   obtain ⟨r, hre⟩ : ∃ r, p.tmod q = r := ⟨_, rfl⟩
   have hrw := hr.1
   have HRB := yz hr.2
   rw [hre] at hrw HRB HL HS
   clear hr
   go_wp2
   go_roundw
   case rel => exact ⟨q, r, rfl, rfl, hq, HRB, yz ((yy HS).trans (yy hg)), nd, rfl⟩
   case measure => simp [intOf]; exact yy HL
theorem dP (x y z : Int) (w : World) (hr : aq x y z = true) :
  Calls Tryz.prog 56 #[.agg #[.int .i64 x, .int .i64 y, .int .i64 z]] w fun e w' => e = .returned (.agg #[.int .i64 (wrap64 (x.tdiv (gI x y z))), .int .i64 (wrap64 (y.tdiv (gI x y z))), .int .i64 (wrap64 (z.tdiv (gI x y z)))]) ∧ Below w.heap.size w w' := by
 obtain ⟨⟨hx, hy, hz⟩, _⟩ := aI.1 hr
 have hg1 := it hx hy
 have hpos := pB hr
 go_enter Tryz.func56, Tryz.ntmps56
 go_wp2_with fail
 go_quiet (first | (go_at_call_of 86 (Value.int IntKind.i64 x); refine Calls.quiet_of (eR x y _ hx hy)) | (go_at_call 86; refine Calls.quiet_of (eR _ z _ ?_ hz); omega))
 have hz0 : (gI x y z == 0) = false := by simp; omega
 have hgi : ((Int.gcd ((Int.gcd x y : Nat) : Int) z : Nat) : Int) = gI x y z := rfl
 rw [hgi]
 clear hgi
 generalize hge : gI x y z = g at hpos hz0 ⊢
 have HG := yz hge
 clear hge
 have va : aB (((w.alloc (.cells #[.int .i64 x, .int .i64 y, .int .i64 z] 67)).alloc (.cells #[.int .i64 0, .int .i64 0, .int .i64 0] 67)).drewN nq) w.heap.size x y z := ((aA w x y z _).alloc (by simp) _)
 have vr : aB (((w.alloc (.cells #[.int .i64 x, .int .i64 y, .int .i64 z] 67)).alloc (.cells #[.int .i64 0, .int .i64 0, .int .i64 0] 67)).drewN nq) (w.heap.size + 1) 0 0 0 := (by simpa using aA (w.alloc (.cells #[.int .i64 x, .int .i64 y, .int .i64 z] 67)) 0 0 0 67 : aB ((w.alloc (.cells #[.int .i64 x, .int .i64 y, .int .i64 z] 67)).alloc (.cells #[.int .i64 0, .int .i64 0, .int .i64 0] 67)) (w.heap.size + 1) 0 0 0)
 have fr : bO (((w.alloc (.cells #[.int .i64 x, .int .i64 y, .int .i64 z] 67)).alloc (.cells #[.int .i64 0, .int .i64 0, .int .i64 0] 67)).drewN nq) (w.heap.size + 1) := (by simpa using bk (w.alloc (.cells #[.int .i64 x, .int .i64 y, .int .i64 z] 67)) 0 0 0 67 : bO ((w.alloc (.cells #[.int .i64 x, .int .i64 y, .int .i64 z] 67)).alloc (.cells #[.int .i64 0, .int .i64 0, .int .i64 0] 67)) (w.heap.size + 1))
 have hB : Below w.heap.size w (((w.alloc (.cells #[.int .i64 x, .int .i64 y, .int .i64 z] 67)).alloc (.cells #[.int .i64 0, .int .i64 0, .int .i64 0] 67)).drewN nq) := aj (bj _ _ _) (bL _ _)
 generalize ((w.alloc (.cells #[.int .i64 x, .int .i64 y, .int .i64 z] 67)).alloc (.cells #[.int .i64 0, .int .i64 0, .int .i64 0] 67)).drewN nq = w1 at va vr fr hB ⊢
 obtain ⟨ca0, ca1, ca2⟩ := va
 obtain ⟨cr0, cr1, cr2⟩ := vr
 obtain ⟨fr0, fr1, fr2⟩ := fr
 clear hg1 hx hy hz hr
 go_wp2_with fail
 go_region
 go_wp2
 exact bodyPost_ret (v := .agg #[.int .i64 (wrap64 (x.tdiv g)), .int .i64 (wrap64 (y.tdiv g)), .int .i64 (wrap64 (z.tdiv g))]) (by simp [results, Tryz.results56, go_sem, cr0, cr1, cr2]) rfl ⟨by rw [yy HG], (aQ hB (by omega) _ _ _).drew⟩
theorem lX (a1 a2 a3 : Int) (w : World) :
  Calls Tryz.prog 50 #[.agg #[.int .i64 a1, .int .i64 a2, .int .i64 a3]] w fun e w' => e = .returned (.agg #[.int .i64 (prI (aq a1 a2 a3) (gI a1 a2 a3) a1), .int .i64 (prI (aq a1 a2 a3) (gI a1 a2 a3) a2), .int .i64 (prI (aq a1 a2 a3) (gI a1 a2 a3) a3)]) ∧ Below w.heap.size w w' := by
 go_enter Tryz.func50, Tryz.ntmps50
 go_wp2_with fail
 refine (bN a1 a2 a3 _).mono ?_
 rintro e w1 ⟨rfl, hB1⟩
 have hB : Below w.heap.size w w1 := aj (bj _ _ _) hB1
 have hs : w.heap.size + 2 ≤ w1.heap.size := by have := hB1.size; simpa [Nat.add_assoc] using this
 have va : aB w1 w.heap.size a1 a2 a3 := ((by simpa using aA w a1 a2 a3 _ : aB _ w.heap.size a1 a2 a3).alloc (by simp) _).kept (by simp; omega) hB1
 have vr : aB w1 (w.heap.size + 1) 0 0 0 := (by simpa using aA (w.alloc _) 0 0 0 _ : aB _ (w.heap.size + 1) 0 0 0).kept (by simp) hB1
 have fr : bO w1 (w.heap.size + 1) := (by simpa using bk (w.alloc _) 0 0 0 _ : bO _ (w.heap.size + 1)).kept (by simp) hB1
 clear hB1
 have hva := va
 obtain ⟨ca0, ca1, ca2⟩ := va
 have hvr := vr
 have hfr := fr
 obtain ⟨cr0, cr1, cr2⟩ := vr
 obtain ⟨fr0, fr1, fr2⟩ := fr
 cases ha : aq a1 a2 a3
 ·go_wp2_with fail
  exact bodyPost_ret (v := .agg #[.int .i64 0, .int .i64 0, .int .i64 0]) (by simp [results, Tryz.results50, go_sem, cr0, cr1, cr2]) rfl ⟨by simp [prI, ha], aQ hB (by omega) _ _ _⟩
 ·go_wp2_with fail
  refine (dP a1 a2 a3 _ ha).mono ?_
  rintro e w2 ⟨rfl, hB2⟩
  have vr := hvr.kept (by omega) hB2
  have fr := hfr.kept (by omega) hB2
  replace hB : Below w.heap.size w w2 := aj hB hB2
  clear hB2 cr0 cr1 cr2 fr0 fr1 fr2
  obtain ⟨cr0, cr1, cr2⟩ := vr
  obtain ⟨fr0, fr1, fr2⟩ := fr
  go_wp2_with fail
  exact bodyPost_ret (v := .agg #[.int .i64 (wrap64 (a1.tdiv (gI a1 a2 a3))), .int .i64 (wrap64 (a2.tdiv (gI a1 a2 a3))), .int .i64 (wrap64 (a3.tdiv (gI a1 a2 a3)))]) (by simp [results, Tryz.results50, go_sem, cr0, cr1, cr2]) rfl ⟨by simp [prI, ha], aQ hB (by omega) _ _ _⟩
def gS (x y z : Int) : Nat → Int
 | 0 => 0
 | 1 => ((Int.gcd 0 x : Nat) : Int)
 | 2 => ((Int.gcd ((Int.gcd 0 x : Nat) : Int) y : Nat) : Int)
 | _ => ((Int.gcd ((Int.gcd ((Int.gcd 0 x : Nat) : Int) y : Nat) : Int) z : Nat) : Int)
theorem se {x y z : Int} (k : Nat) (h : (-1000000 ≤ x ∧ x ≤ 1000000) ∧ (-1000000 ≤ y ∧ y ≤ 1000000) ∧ (-1000000 ≤ z ∧ z ≤ 1000000)) : -1000000 ≤ gS x y z k ∧ gS x y z k ≤ 1000000 := by
 have h1 := it (a := 0) (m := 1000000) (by omega) h.1
 have h2 := it (m := 1000000) (a := ((Int.gcd 0 x : Nat) : Int)) (by omega) h.2.1
 have h3 := it (m := 1000000) (a := ((Int.gcd ((Int.gcd 0 x : Nat) : Int) y : Nat) : Int)) (by omega) h.2.2
 match k with
 | 0 => exact ⟨by show (-1000000 : Int) ≤ 0; omega, by show (0 : Int) ≤ 1000000; omega⟩
 | 1 => exact ⟨by show (-1000000 : Int) ≤ ((Int.gcd 0 x : Nat) : Int); omega, h1.2⟩
 | 2 => exact ⟨by show (-1000000 : Int) ≤ ((Int.gcd ((Int.gcd 0 x : Nat) : Int) y : Nat) : Int); omega, h2.2⟩
 | k + 3 => exact ⟨by show (-1000000 : Int) ≤ ((Int.gcd ((Int.gcd ((Int.gcd 0 x : Nat) : Int) y : Nat) : Int) z : Nat) : Int); omega, h3.2⟩
theorem mL (a1 a2 a3 : Int) (w : World) :
  Calls Tryz.prog 105 #[.agg #[.int .i64 a1, .int .i64 a2, .int .i64 a3]] w fun e w' => e = .returned (.agg #[.int .i64 (prI (aq a1 a2 a3) (gI a1 a2 a3) a1), .int .i64 (prI (aq a1 a2 a3) (gI a1 a2 a3) a2), .int .i64 (prI (aq a1 a2 a3) (gI a1 a2 a3) a3)]) ∧ Below w.heap.size w w' := by
 go_enter Tryz.func105, Tryz.ntmps105
 go_wp2_with fail
 refine (bt a1 a2 a3 _).mono ?_
 rintro e w1 ⟨rfl, hB1⟩
 have hB : Below w.heap.size w w1 := aj (bj _ _ _) hB1
 have hs : w.heap.size + 2 ≤ w1.heap.size := by have := hB1.size; simpa [Nat.add_assoc] using this
 have va : aB w1 w.heap.size a1 a2 a3 := ((by simpa using aA w a1 a2 a3 _ : aB _ w.heap.size a1 a2 a3).alloc (by simp) _).kept (by simp; omega) hB1
 have vr : aB w1 (w.heap.size + 1) 0 0 0 := (by simpa using aA (w.alloc _) 0 0 0 _ : aB _ (w.heap.size + 1) 0 0 0).kept (by simp) hB1
 have fr : bO w1 (w.heap.size + 1) := (by simpa using bk (w.alloc _) 0 0 0 _ : bO _ (w.heap.size + 1)).kept (by simp) hB1
 clear hB1
 have hva := va
 obtain ⟨ca0, ca1, ca2⟩ := va
 have hvr := vr
 have hfr := fr
 obtain ⟨cr0, cr1, cr2⟩ := vr
 obtain ⟨fr0, fr1, fr2⟩ := fr
 cases ha : aq a1 a2 a3
 ·go_wp2_with fail
  exact bodyPost_ret (v := .agg #[.int .i64 0, .int .i64 0, .int .i64 0]) (by simp [results, Tryz.results105, go_sem, cr0, cr1, cr2]) rfl ⟨by simp [prI, ha], aQ hB (by omega) _ _ _⟩
 ·go_wp2_with fail
  refine (mK a1 a2 a3 _).mono ?_
  rintro e w2 ⟨rfl, hB2⟩
  have va := hva.kept (by omega) hB2
  have vr := hvr.kept (by omega) hB2
  have fr := hfr.kept (by omega) hB2
  replace hs : w.heap.size + 2 ≤ w2.heap.size := by have := hB2.size; omega
  replace hB : Below w.heap.size w w2 := aj hB hB2
  clear hB2 hva hvr hfr ca0 ca1 ca2 cr0 cr1 cr2 fr0 fr1 fr2
  have i0 : ∀ w : World, (Instr.index 132 (.agg #[.int .i64 a1, .int .i64 a2, .int .i64 a3]) (.int .i64 0)).run Tryz.prog w = .ok (.int .i64 a1) w := fun _ => by kernel_rfl
  have i1 : ∀ w : World, (Instr.index 132 (.agg #[.int .i64 a1, .int .i64 a2, .int .i64 a3]) (.int .i64 1)).run Tryz.prog w = .ok (.int .i64 a2) w := fun _ => by kernel_rfl
  have i2 : ∀ w : World, (Instr.index 132 (.agg #[.int .i64 a1, .int .i64 a2, .int .i64 a3]) (.int .i64 2)).run Tryz.prog w = .ok (.int .i64 a3) w := fun _ => by kernel_rfl
  have HR := yz (aI.1 ha).1
  have HP := yz (pB ha)
  go_wp2_with fail
  go_loopw [3, 12] (fun u i wr => ∃ (k n : Nat), k ≤ 3 ∧ i = .int .i64 k ∧ u = .int .i64 (gS a1 a2 a3 k) ∧ wr = w2.drewN n) (fun _ i _ => 3 - (intOf i).toNat)
  case atStart => exact ⟨0, 0, by omega, rfl, rfl, rfl⟩
  case round =>
   obtain ⟨k, n, hk, rfl, rfl, rfl⟩ := hrel
   have hk4 : k = 0 ∨ k = 1 ∨ k = 2 ∨ k = 3 := by omega
   rcases hk4 with rfl | rfl | rfl | rfl
   ·go_wp2_with fail
    refine (dE _ a1 _ (se 0 (yy HR)) (yy HR).1).mono ?_
    rintro e w3 ⟨rfl, m, rfl⟩
    go_wp2_with fail
    go_roundw
    case rel => exact ⟨1, n + m, by omega, rfl, rfl, by simp⟩
    case measure => simp [intOf]
   ·go_wp2_with fail
    refine (dE _ a2 _ (se 1 (yy HR)) (yy HR).2.1).mono ?_
    rintro e w3 ⟨rfl, m, rfl⟩
    go_wp2_with fail
    go_roundw
    case rel => exact ⟨2, n + m, by omega, rfl, rfl, by simp⟩
    case measure => simp [intOf]
   ·go_wp2_with fail
    refine (dE _ a3 _ (se 2 (yy HR)) (yy HR).2.2).mono ?_
    rintro e w3 ⟨rfl, m, rfl⟩
    go_wp2_with fail
    go_roundw
    case rel => exact ⟨3, n + m, by omega, rfl, rfl, by simp⟩
    case measure => simp [intOf]
   ·have hgs : gS a1 a2 a3 3 = gI a1 a2 a3 := qY a1 a2 a3
    rw [hgs]
    clear hgs
    have hpos := yy HP
    have hz0 : (gI a1 a2 a3 == 0) = false := by simp; omega
    generalize hge : gI a1 a2 a3 = g at hpos hz0 ⊢
    have HG := yz hge
    clear hge i0 i1 i2
    have va' : aB (w2.drewN n) w.heap.size a1 a2 a3 := va
    have vr' : aB (w2.drewN n) (w.heap.size + 1) 0 0 0 := vr
    have fr' : bO (w2.drewN n) (w.heap.size + 1) := fr
    have hB' : Below w.heap.size w (w2.drewN n) := aj hB (bL _ _)
    clear va vr fr hB hs
    go_wp2_with fail
    generalize w2.drewN n = w3 at va' vr' fr' hB' ⊢
    obtain ⟨ca0, ca1, ca2⟩ := va'
    obtain ⟨cr0, cr1, cr2⟩ := vr'
    obtain ⟨fr0, fr1, fr2⟩ := fr'
    go_region
    go_wp2
    exact bodyPost_ret (v := .agg #[.int .i64 (wrap64 (a1.tdiv g)), .int .i64 (wrap64 (a2.tdiv g)), .int .i64 (wrap64 (a3.tdiv g))]) (by simp [results, Tryz.results105, go_sem, cr0, cr1, cr2]) rfl ⟨by rw [yy HG]; simp [prI, ha], (aQ hB' (by omega) _ _ _).drew⟩
end
section
open Go.RowKit Go.Sort
theorem sI (a1 a2 a3 b1 b2 b3 : Int) : bv a1 a2 a3 b1 b2 b3 = (eqB (crI (aq a1 a2 a3 && aq b1 b2 b3) a2 a3 b2 b3) (crI (aq a1 a2 a3 && aq b1 b2 b3) a3 a1 b3 b1) (crI (aq a1 a2 a3 && aq b1 b2 b3) a1 a2 b1 b2) 0 0 0 && decide (0 < mZ a1 a2 a3 b1 b2 b3)) := by
 unfold bv crI mZ
 cases h : (aq a1 a2 a3 && aq b1 b2 b3)
 ·simp
 ·simp [eqB, el]
theorem fd (a1 a2 a3 b1 b2 b3 : Int) (w : World) :
  Calls Tryz.prog 38 #[.agg #[.int .i64 a1, .int .i64 a2, .int .i64 a3], .agg #[.int .i64 b1, .int .i64 b2, .int .i64 b3]] w fun e w' => e = .returned (.bool (bv a1 a2 a3 b1 b2 b3)) ∧ Below w.heap.size w w' := by
 have HS := yz (sI a1 a2 a3 b1 b2 b3)
 go_enter Tryz.func38, Tryz.ntmps38
 go_wp2_with fail
 refine (mm a1 a2 a3 b1 b2 b3 _).mono ?_
 rintro e w1 ⟨rfl, hB1⟩
 have hB : Below w.heap.size w w1 := aj (bj _ _ _) hB1
 have va : aB w1 w.heap.size a1 a2 a3 := ((aA w a1 a2 a3 _).alloc (by simp) _).kept (by simp; omega) hB1
 have vb : aB w1 (w.heap.size + 1) b1 b2 b3 := (by simpa using aA (w.alloc _) b1 b2 b3 _ : aB _ (w.heap.size + 1) b1 b2 b3).kept (by simp) hB1
 clear hB1
 obtain ⟨ca0, ca1, ca2⟩ := va
 obtain ⟨cb0, cb1, cb2⟩ := vb
 generalize crI (aq a1 a2 a3 && aq b1 b2 b3) a2 a3 b2 b3 = x at HS ⊢
 generalize crI (aq a1 a2 a3 && aq b1 b2 b3) a3 a1 b3 b1 = y at HS ⊢
 generalize crI (aq a1 a2 a3 && aq b1 b2 b3) a1 a2 b1 b2 = z at HS ⊢
 have he := fun w => ko x y z 0 0 0 w
 cases hz : eqB x y z 0 0 0
 ·rw [hz] at he HS
  go_wp2_with fail
  go_ret
  exact ⟨by rw [yy HS]; rfl, hB⟩
 ·rw [hz] at he HS
  go_wp2_with fail
  refine (na a1 a2 a3 b1 b2 b3 _).mono ?_
  rintro e w2 ⟨rfl, hB2⟩
  replace hB := aj hB hB2
  go_wp2_with fail
  go_ret
  exact ⟨by rw [yy HS, Bool.true_and]; rfl, hB⟩
theorem gg (a1 a2 a3 b1 b2 b3 : Int) (w : World) :
  Calls Tryz.prog 47 #[.agg #[.int .i64 a1, .int .i64 a2, .int .i64 a3], .agg #[.int .i64 b1, .int .i64 b2, .int .i64 b3]] w fun e w' => e = .returned (.bool (eqB (crW a2 a3 b2 b3) (crW a3 a1 b3 b1) (crW a1 a2 b1 b2) 0 0 0 && decide (0 < bf a1 a2 a3 b1 b2 b3))) ∧ Below w.heap.size w w' := by
 go_enter Tryz.func47, Tryz.ntmps47
 go_wp2_with fail
 refine (iM a1 a2 a3 b1 b2 b3 _).mono ?_
 rintro e w1 ⟨rfl, hB1⟩
 have hB : Below w.heap.size w w1 := aj (bj _ _ _) hB1
 have va : aB w1 w.heap.size a1 a2 a3 := ((aA w a1 a2 a3 _).alloc (by simp) _).kept (by simp; omega) hB1
 have vb : aB w1 (w.heap.size + 1) b1 b2 b3 := (by simpa using aA (w.alloc _) b1 b2 b3 _ : aB _ (w.heap.size + 1) b1 b2 b3).kept (by simp) hB1
 clear hB1
 obtain ⟨ca0, ca1, ca2⟩ := va
 obtain ⟨cb0, cb1, cb2⟩ := vb
 have he := fun w => ko (crW a2 a3 b2 b3) (crW a3 a1 b3 b1) (crW a1 a2 b1 b2) 0 0 0 w
 cases hz : eqB (crW a2 a3 b2 b3) (crW a3 a1 b3 b1) (crW a1 a2 b1 b2) 0 0 0
 ·rw [hz] at he
  go_wp2_with fail
  go_ret
  exact ⟨by rw [hz]; rfl, hB⟩
 ·rw [hz] at he
  go_wp2_with fail
  refine (dC a1 a2 a3 b1 b2 b3 _).mono ?_
  rintro e w2 ⟨rfl, hB2⟩
  replace hB := aj hB hB2
  go_wp2_with fail
  go_ret
  exact ⟨by rw [hz, Bool.true_and]; rfl, hB⟩
end
section
open Go.RowKit
def im (w : World) (b o : Nat) (s : St) : Prop := w.cell? ⟨b, o, none⟩ = some (.int .i64 s.1) ∧ w.cell? ⟨b, o + 1, none⟩ = some (.int .i64 s.2.1) ∧ w.cell? ⟨b, o + 2, none⟩ = some (.int .i64 s.2.2.1) ∧ w.cell? ⟨b, o + 3, none⟩ = some (.int .i64 s.2.2.2)
def aJ (w : World) (a : Option Addr) (L : List St) (n : Nat) : Prop := n = 0 ∨ ∃ b o, a = some ⟨b, o, none⟩ ∧ b < w.heap.size ∧ ∀ i, i < n → im w b (o + i * 4) (stA L i)
theorem im.kept {w w' : World} {b o : Nat} {s : St} (h : im w b o s) (hb : b < w.heap.size) (hB : Below w.heap.size w w') : im w' b o s := by
 obtain ⟨h0, h1, h2, h3⟩ := h
 exact ⟨by rw [hB.cell (p := ⟨b, o, none⟩) hb]; exact h0, by rw [hB.cell (p := ⟨b, o + 1, none⟩) hb]; exact h1, by rw [hB.cell (p := ⟨b, o + 2, none⟩) hb]; exact h2, by rw [hB.cell (p := ⟨b, o + 3, none⟩) hb]; exact h3⟩
theorem aJ.kept {w w' : World} {a : Option Addr} {L : List St} {n : Nat} (h : aJ w a L n) (hB : Below w.heap.size w w') : aJ w' a L n := by
 rcases h with h | ⟨b, o, ha, hb, hc⟩
 ·exact .inl h
 ·exact .inr ⟨b, o, ha, Nat.lt_of_lt_of_le hb hB.size, fun i hi => (hc i hi).kept hb hB⟩
theorem vlt {w : World} {b : Nat} {x y z : Int} (h : aB w b x y z) : b < w.heap.size := World.block_lt_of_cell? w _ h.1
theorem aJ.less {w : World} {a : Option Addr} {L : List St} {n m : Nat} (h : aJ w a L n) (hm : m ≤ n) : aJ w a L m := by
 rcases h with h | ⟨b, o, ha, hb, hc⟩
 ·exact .inl (by omega)
 ·exact .inr ⟨b, o, ha, hb, fun i hi => hc i (by omega)⟩
theorem jK (L : List St) (n : Nat) (x y z : Int) (a : Option Addr) (c : Nat) (w : World) (hn : n ≤ 1048576) (hS : aJ w a L n) :
  Calls Tryz.prog 106 #[.agg #[.int .i64 x, .int .i64 y, .int .i64 z], .slice a n c] w fun e w' => e = .returned (.bool (dm L (0, x, y, z) n)) ∧ Below w.heap.size w w' := by
 rcases hS with rfl | ⟨b, o, rfl, hb, hc⟩
 ·go_enter Tryz.func106, Tryz.ntmps106
  go_wp2_with fail
  refine wp_loop_rounds 1 ?_
  rw [rounds_succ]
  go_wp2_with fail
  go_ret
  exact ⟨rfl, ak _ _⟩
 ·have HC := yz hc
  clear hc
  have V0 := yz (aA w x y z 67)
  have B0 := yz (ak w (.cells #[.int .i64 x, .int .i64 y, .int .i64 z] 67))
  go_enter Tryz.func106, Tryz.ntmps106
  go_wp2_with fail
  go_loopw [9] (fun i wr => ∃ k : Nat, k ≤ n ∧ i = .int .i64 k ∧ Hid (jm L (0, x, y, z) k) ∧ Hid (Below w.heap.size w wr) ∧ Hid (aB wr w.heap.size x y z)) (fun i _ => n - (intOf i).toNat)
  case atStart => exact ⟨0, by omega, rfl, yz (fun j hj => absurd hj (Nat.not_lt_zero _)), B0, V0⟩
  case round =>
   obtain ⟨k, hk, rfl, HF, HB, HV⟩ := hrel
   by_cases hkn : k < n
   ·obtain ⟨⟨s1, s2, s3, s4⟩, hs⟩ : ∃ s, stA L k = s := ⟨_, rfl⟩
    have hst := ((yy HC) k hkn).kept hb (yy HB)
    rw [hs] at hst
    obtain ⟨c0, c1, c2, c3⟩ := hst
    have HS := yz hs
    clear hs
    have V1 := yz (aB.alloc (yy HV) (vlt (yy HV)) (.cells #[.int .i64 s1, .int .i64 s2, .int .i64 s3, .int .i64 s4] 69))
    have B1 := yz ((yy HB).alloc (yy HB).size (.cells #[.int .i64 s1, .int .i64 s2, .int .i64 s3, .int .i64 s4] 69))
    obtain ⟨v0, v1, v2⟩ := yy V1
    go_wp2_with fail
    refine (fd x y z s2 s3 s4 _).mono ?_
    rintro e w2 ⟨rfl, hx⟩
    have HV2 := yz ((yy V1).kept (vlt (yy V1)) hx)
    have HB2 := yz (aj (yy B1) hx)
    clear hx c0 c1 c2 c3 v0 v1 v2 V1 B1 HB HV
    have HR : Hid (jN (0, x, y, z) (stA L k) = bv x y z s2 s3 s4) := yz (by rw [yy HS]; rfl)
    cases hq : bv x y z s2 s3 s4
    ·rw [hq] at HR
     go_wp2_with fail
     go_roundw
     case rel => exact ⟨k + 1, by omega, by go_num, yz (my (yy HF) (yy HR)), HB2, HV2⟩
     case measure => simp [intOf]; omega
    ·rw [hq] at HR
     go_wp2_with fail
     go_ret
     exact ⟨by rw [mO hkn (yy HR)]; rfl, yy HB2⟩
   ·have hkn' : k = n := by omega
    subst hkn'
    go_wp2_with fail
    go_ret
    exact ⟨by rw [lK (yy HF)]; rfl, yy HB⟩
end
section
open Go.RowKit Go.Sort
theorem oL (x y z : Int) (w : World) :
  Calls Tryz.prog 46 #[.agg #[.int .i64 x, .int .i64 y, .int .i64 z]] w fun e w' => e = .returned (.bool (bz x y z)) ∧ Below w.heap.size w w' := by
 have A0 := aA w x y z 67
 have B0 := ak w (.cells #[.int .i64 x, .int .i64 y, .int .i64 z] 67)
 have cR := yz (fun W => bN x y z W)
 have cW := yz (fun W => dz 1800 x y z W (by omega) (by omega))
 have HW : Hid (bz x y z = (aq x y z && aF 1800 x y z)) := yz rfl
 generalize bz x y z = wv at *
 generalize aF 1800 x y z = wi at *
 go_enter Tryz.func46, Tryz.ntmps46
 go_wp2_with fail
 refine (yy cR _).mono ?_
 rintro e w1 ⟨rfl, hx⟩
 obtain ⟨c0, c1, c2⟩ := A0.kept (World.block_lt_of_cell? _ _ A0.1) hx
 have B1 := aj B0 hx
 clear hx B0 A0
 cases hr : aq x y z
 ·rw [hr] at HW
  go_wp2_with fail
  go_ret
  exact ⟨by rw [yy HW]; rfl, B1⟩
 ·rw [hr] at HW
  go_wp2_with fail
  refine (yy cW _).mono ?_
  rintro e w2 ⟨rfl, hx⟩
  have B2 := aj B1 hx
  clear hx B1
  go_wp2_with fail
  go_ret
  exact ⟨by rw [yy HW]; rfl, B2⟩
end
end Go.Proofs.YtoakkmjcbnfljaaGreatDoor
