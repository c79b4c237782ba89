/- Several texts in one: StE. -/
import Derived.Test.YtackifnnhjbgbaaQFnFrameOwn14
namespace Go.Proofs.Ytackifnnhjbgbaa
set_option linter.unusedVariables false
set_option linter.unusedSimpArgs false
set_option maxRecDepth 100000
set_option maxHeartbeats 8000000
section
open Go.RowKit
theorem fY {d : Array Int} {b i : Nat} (h : ¬ i < b) : Sort.scanSorted Sort.ltInt d b i = i := by
 rw [Sort.scanSorted, if_neg]; simp [h]
theorem fF {d : Array Int} {b m : Nat} (h : Sort.ltInt d[m + 1]! d[m]! = true) : Sort.scanSorted Sort.ltInt d b (m + 1) = m + 1 := by
 rw [Sort.scanSorted, if_neg]; simp [h]
theorem il {d : Array Int} {b m : Nat} (h0 : m + 1 < b) (h : Sort.ltInt d[m + 1]! d[m]! = false) : Sort.scanSorted Sort.ltInt d b (m + 1) = Sort.scanSorted Sort.ltInt d b (m + 1 + 1) := by
 conv => lhs; rw [Sort.scanSorted, if_pos (show (decide (m + 1 < b) && !Sort.ltInt d[m + 1]! d[m + 1 - 1]!) = true by rw [Nat.add_sub_cancel, h]; simp [h0])]
theorem gG {d : Array Int} {q : Nat} (h : Sort.ltInt d[q + 1]! d[q]! = false) : Sort.shiftDown Sort.ltInt (q + 1) d = d := by
 rw [Sort.shiftDown, h]; rfl
theorem iV {d : Array Int} {q : Nat} (h : Sort.ltInt d[q + 1]! d[q]! = true) : Sort.shiftDown Sort.ltInt (q + 1) d = Sort.shiftDown Sort.ltInt q (Sort.swp d (q + 1) q) := by
 conv => lhs; rw [Sort.shiftDown, h]
 rfl
theorem jy {d : Array Int} {b j : Nat} (h : ¬ j < b) : Sort.shiftUp Sort.ltInt b j d = d := by
 rw [Sort.shiftUp, if_neg h]
theorem iY {d : Array Int} {b q : Nat} (h : Sort.ltInt d[q + 1]! d[q]! = false) : Sort.shiftUp Sort.ltInt b (q + 1) d = d := by
 rw [Sort.shiftUp]
 split
 ·rw [Nat.add_sub_cancel, h]; rfl
 ·rfl
theorem jM {d : Array Int} {b q : Nat} (h0 : q + 1 < b) (h : Sort.ltInt d[q + 1]! d[q]! = true) : Sort.shiftUp Sort.ltInt b (q + 1) d = Sort.shiftUp Sort.ltInt b (q + 1 + 1) (Sort.swp d (q + 1) q) := by
 conv => lhs; rw [Sort.shiftUp, if_pos h0, Nat.add_sub_cancel, h]
 rfl
theorem ii {a b s i : Nat} {d : Array Int} (h : Sort.scanSorted Sort.ltInt d b i = b) : Sort.partialIns Sort.ltInt a b (s + 1) i d = (d, true) := by
 rw [Sort.partialIns_succ, if_pos h]
theorem gD {a b s i : Nat} {d : Array Int} (h : ¬ Sort.scanSorted Sort.ltInt d b i = b) (h2 : b - a < 50) : Sort.partialIns Sort.ltInt a b (s + 1) i d = (d, false) := by
 rw [Sort.partialIns_succ, if_neg h, if_pos h2]
theorem jo {a b s i m : Nat} {d : Array Int} (hm : m + 1 = Sort.scanSorted Sort.ltInt d b i) (h : ¬ m + 1 = b) (h2 : ¬ b - a < 50) : Sort.partialIns Sort.ltInt a b (s + 1) i d = Sort.partialIns Sort.ltInt a b s (m + 1) (Sort.fixUp Sort.ltInt b (m + 1) (Sort.fixDown Sort.ltInt a (m + 1) (Sort.swp d (m + 1) m))) := by
 rw [Sort.partialIns_succ, ← hm, if_neg h, if_neg h2, Nat.add_sub_cancel]
theorem fC (g cap n a b : Nat) (d : Array Int) (w0 w : World) (hn : d.size = n) (hS : aN w0 g d w) (hab : a < b) (hb : b ≤ n) (hsz : n ≤ 1048576) :
  Calls Try.prog 42 #[.slice (some ⟨g, 0, none⟩) n cap, .int .i64 a, .int .i64 b] w fun e w' => e = .returned (.bool (Sort.partialInsertionSort Sort.ltInt d a b).2) ∧ aN w0 g (Sort.partialInsertionSort Sort.ltInt d a b).1 w' := by
 obtain ⟨R, HR⟩ : ∃ R, Hid (R = Sort.partialInsertionSort Sort.ltInt d a b) := ⟨_, yz rfl⟩
 have HK0 : Hid (StK n w0 g (fun e => Sort.partialIns Sort.ltInt a b 5 (a + 1) e = R) d w) := yz ⟨hn, (yx HR).symm, hS⟩
 rw [← yx HR]
 clear hS hn HR
 go_enter Try.func42, Try.ntmps42
 go_wp2_with fail
 go_loopw [7, 8] (fun u v wr => ∃ (i k s : Nat) (dk : Array Int), u = .int .i64 i ∧ v = .int .i64 k ∧ k + s = 5 ∧ a < i ∧ i ≤ b ∧ Hid (StK n w0 g (fun e => Sort.partialIns Sort.ltInt a b s i e = R) dk wr)) (fun _ v _ => 5 - (intOf v).toNat)
 case atStart => exact ⟨a + 1, 0, 5, d, by go_num, rfl, rfl, by omega, by omega, HK0⟩
 case round =>
  obtain ⟨i, k, s, dk, rfl, rfl, hks, hai, hib, HK⟩ := hrel
  clear HK0
  by_cases hk5 : k < 5
  ·have hkz : (k : Int) < 5 := by omega
   obtain ⟨s, rfl⟩ : ∃ t, s = t + 1 := ⟨s - 1, by omega⟩
   have HE : Hid (Sort.partialIns Sort.ltInt a b (s + 1) i dk = R) := yz (yx HK).same
   have HA : Hid (At8 n w0 g dk wr) := yz ((yx HK).to (fun _ => trivial))
   clear HK
   go_upto_block 2 with fail
   go_cut [7] (fun v wx => ∃ i2 : Nat, v = .int .i64 i2 ∧ i ≤ i2 ∧ i2 ≤ b ∧ Hid (i2 = Sort.scanSorted Sort.ltInt dk b i) ∧ Hid (At8 n w0 g dk wx))
   case first =>
    go_wp2_with fail
    go_loopw [7] (fun v wt => ∃ i3 : Nat, v = .int .i64 i3 ∧ i ≤ i3 ∧ i3 ≤ b ∧ Hid (Sort.scanSorted Sort.ltInt dk b i3 = Sort.scanSorted Sort.ltInt dk b i) ∧ Hid (At8 n w0 g dk wt)) (fun v _ => b + 1 - (intOf v).toNat)
    case atStart => exact ⟨_, rfl, by omega, by omega, yz rfl, HA⟩
    case round =>
     obtain ⟨i3, rfl, h31, h32, HS3, HB⟩ := hrel
     clear HA HE
     by_cases hc : i3 < b
     ·obtain ⟨m, rfl⟩ : ∃ t, i3 = t + 1 := ⟨i3 - 1, by omega⟩
      have hcz : (m : Int) + 1 < (b : Int) := by omega
      have hmn : m < n := by omega
      have hmn1 : m + 1 < n := by omega
      obtain ⟨x, Hx⟩ : ∃ x, Hid (x = dk[m + 1]!) := ⟨_, yz rfl⟩
      obtain ⟨y, Hy⟩ : ∃ x, Hid (x = dk[m]!) := ⟨_, yz rfl⟩
      have cx : wr.cell? ⟨g, m + 1, none⟩ = some (.int .u8 x) := by rw [yx Hx]; exact (yx HB).row.cells (m + 1) (by have := (yx HB).size; omega)
      have cy : wr.cell? ⟨g, m, none⟩ = some (.int .u8 y) := by rw [yx Hy]; exact (yx HB).row.cells (m) (by have := (yx HB).size; omega)
      have cL := yz (fun (W : World) => aA x y W)
      have rx := cell_regrown cx
      have ry := cell_regrown cy
      clear cx cy
      cases hL : Sort.ltInt x y
      ·rw [hL] at cL
       go_wp2_with fail
       refine wp_region_quiet_below (by kernel_rfl) (by kernel_rfl) ?_
       repeat (go_big_quiet_step (first | (with_reducible exact Calls.regrown_of (yx cL _))))
       refine wpQuiet_nil ?_
       intro _ hw'
       obtain ⟨⟨dq, osq⟩, hw''⟩ := hw'
       subst hw''
       have hx := below_regrown wr dq osq
       replace HB := yz ((yx HB).kept hx)
       clear hx rx ry
       generalize Sort.grow (redrawn wr dq) osq = W2 at *
       have hp : Sort.ltInt dk[m + 1]! dk[m]! = false := by rw [← yx Hx, ← yx Hy, hL]
       clear cL Hx Hy
       go_wp2_with fail
       go_roundw
       case rel => exact ⟨m + 1 + 1, by go_num, by omega, by omega, yz ((il hc hp).symm.trans (yx HS3)), HB⟩
       case measure => simp [intOf] <;> omega
      ·rw [hL] at cL
       go_wp2_with fail
       refine wp_region_quiet_below (by kernel_rfl) (by kernel_rfl) ?_
       repeat (go_big_quiet_step (first | (with_reducible exact Calls.regrown_of (yx cL _))))
       refine wpQuiet_nil ?_
       intro _ hw'
       obtain ⟨⟨dq, osq⟩, hw''⟩ := hw'
       subst hw''
       have hx := below_regrown wr dq osq
       replace HB := yz ((yx HB).kept hx)
       clear hx rx ry
       generalize Sort.grow (redrawn wr dq) osq = W2 at *
       have hp : Sort.ltInt dk[m + 1]! dk[m]! = true := by rw [← yx Hx, ← yx Hy, hL]
       clear cL Hx Hy
       go_wp2_with fail
       go_meet
       exact ⟨m + 1, by go_num, by omega, by omega, yz ((fF hp).symm.trans (yx HS3)), HB⟩
     ·have hcz : decide ((i3 : Int) < (b : Int)) = false := decide_eq_false (by omega)
      go_wp2_with fail
      refine wp_region_quiet_below (by kernel_rfl) (by kernel_rfl) ?_
      repeat (go_big_quiet_step (fail))
      refine wpQuiet_nil ?_
      intro _ hw'
      obtain ⟨⟨dq, osq⟩, hw''⟩ := hw'
      subst hw''
      have hx := below_regrown wr dq osq
      replace HB := yz ((yx HB).kept hx)
      clear hx 
      generalize Sort.grow (redrawn wr dq) osq = W2 at *
      go_wp2_with fail
      go_meet
      exact ⟨i3, rfl, by omega, by omega, yz ((fY hc).symm.trans (yx HS3)), HB⟩
   case rest =>
    obtain ⟨i2, rfl, h21, h22, HU, HA⟩ := hcut
    by_cases hib2 : i2 = b
    ·subst hib2
     have hR := yx HE
     rw [ii (yx HU).symm] at hR
     subst hR
     have HK2 := yz (yx HA).row
     clear HE HA HU
     go_wp2_with fail
     go_ret
     exact ⟨rfl, yx HK2⟩
    have hne : ((i2 : Int) == (b : Int)) = false := by simp; omega
    by_cases h50 : b - a < 50
    ·have h50z : (b : Int) - (a : Int) < 50 := by omega
     have hR := yx HE
     rw [gD (by rw [← yx HU]; exact hib2) h50] at hR
     subst hR
     have HK2 := yz (yx HA).row
     clear HE HA HU
     go_wp2_with fail
     go_ret
     exact ⟨rfl, yx HK2⟩
    have h50z : ¬ (b : Int) - (a : Int) < 50 := by omega
    obtain ⟨m, rfl⟩ : ∃ t, i2 = t + 1 := ⟨i2 - 1, by omega⟩
    have HE2 := yz ((jo (yx HU) hib2 h50).symm.trans (yx HE))
    clear HE HU
    have hmb : m + 1 < b := by omega
    have hmn : m < n := by omega
    have hmn1 : m + 1 < n := by omega
    obtain ⟨x, Hx⟩ : ∃ x, Hid (x = dk[m + 1]!) := ⟨_, yz rfl⟩
    obtain ⟨y, Hy⟩ : ∃ x, Hid (x = dk[m]!) := ⟨_, yz rfl⟩
    have cx : wc.cell? ⟨g, m + 1, none⟩ = some (.int .u8 x) := by rw [yx Hx]; exact (yx HA).row.cells (m + 1) (by have := (yx HA).size; omega)
    have cy : wc.cell? ⟨g, m, none⟩ = some (.int .u8 y) := by rw [yx Hy]; exact (yx HA).row.cells (m) (by have := (yx HA).size; omega)
    have fx := (yx HA).row.free (m + 1) (by have := (yx HA).size; omega)
    have fy := (yx HA).row.free (m) (by have := (yx HA).size; omega)
    have HI : Hid (StK n w0 g (fun e => Sort.partialIns Sort.ltInt a b s (m + 1) (Sort.fixUp Sort.ltInt b (m + 1) (Sort.fixDown Sort.ltInt a (m + 1) e)) = R) (Sort.swp dk (m + 1) (m)) (((wc.setCell ⟨g, m + 1, none⟩ (.int .u8 y)).setCell ⟨g, m, none⟩ (.int .u8 x)).drew)) := yz ((yx HA).put (by omega) (by omega) Hx Hy (fun h => yx HE2))
    clear HA Hx Hy HE2
    generalize Sort.swp dk (m + 1) m = d2 at *
    obtain ⟨W2, hW2⟩ : ∃ W, W = (((wc.setCell ⟨g, m + 1, none⟩ (.int .u8 y)).setCell ⟨g, m, none⟩ (.int .u8 x)).drew) := ⟨_, rfl⟩
    rw [← hW2] at HI
    go_wp2_with fail
    go_region
    rw [← hW2]
    clear hW2 cx cy fx fy
    go_upto_if 61 with fail
    go_cut [9, 61] from 62 (fun _ _ wx => ∃ d3 : Array Int, Hid (StK n w0 g (fun e => Sort.partialIns Sort.ltInt a b s (m + 1) (Sort.fixUp Sort.ltInt b (m + 1) e) = R) d3 wx))
    case first =>
     by_cases h2 : m + 1 - a ≥ 2
     ·have h2z : (2 : Int) ≤ (m : Int) + 1 - (a : Int) := by omega
      have HI2 : Hid (StK n w0 g (fun e => Sort.partialIns Sort.ltInt a b s (m + 1) (Sort.fixUp Sort.ltInt b (m + 1) (Sort.shiftDown Sort.ltInt m e)) = R) d2 W2) := yz ((yx HI).to (fun h => by unfold Sort.fixDown at h; rw [if_pos h2, Nat.add_sub_cancel] at h; exact h))
      clear HI
      go_wp2_with fail
      go_loopw [9] (fun v wt => ∃ (j : Nat) (dj : Array Int), v = .int .i64 j ∧ j ≤ m ∧ Hid (StK n w0 g (fun e => Sort.partialIns Sort.ltInt a b s (m + 1) (Sort.fixUp Sort.ltInt b (m + 1) (Sort.shiftDown Sort.ltInt j e)) = R) dj wt)) (fun v _ => (intOf v).toNat)
      case atStart => exact ⟨m, d2, by go_num, by omega, HI2⟩
      case round =>
       obtain ⟨j, dj, rfl, hjm, HJ⟩ := hrel
       clear HI2
       by_cases hj1 : 1 ≤ j
       ·obtain ⟨q, rfl⟩ : ∃ t, j = t + 1 := ⟨j - 1, by omega⟩
        have hjz : (1 : Int) ≤ (q : Int) + 1 := by omega
        have hqn : q < n := by omega
        have hqn1 : q + 1 < n := by omega
        obtain ⟨x, Hx⟩ : ∃ x, Hid (x = dj[q + 1]!) := ⟨_, yz rfl⟩
        obtain ⟨y, Hy⟩ : ∃ x, Hid (x = dj[q]!) := ⟨_, yz rfl⟩
        have cx : wr.cell? ⟨g, q + 1, none⟩ = some (.int .u8 x) := by rw [yx Hx]; exact (yx HJ).row.cells (q + 1) (by have := (yx HJ).size; omega)
        have cy : wr.cell? ⟨g, q, none⟩ = some (.int .u8 y) := by rw [yx Hy]; exact (yx HJ).row.cells (q) (by have := (yx HJ).size; omega)
        have cL := yz (fun (W : World) => aA x y W)
        have rx := cell_regrown cx
        have ry := cell_regrown cy
        clear cx cy
        cases hL : Sort.ltInt x y
        ·rw [hL] at cL
         go_wp2_with fail
         refine wp_region_quiet_below (by kernel_rfl) (by kernel_rfl) ?_
         repeat (go_big_quiet_step (first | (with_reducible exact Calls.regrown_of (yx cL _))))
         refine wpQuiet_nil ?_
         intro _ hw'
         obtain ⟨⟨dq, osq⟩, hw''⟩ := hw'
         subst hw''
         have hx := below_regrown wr dq osq
         replace HJ := yz ((yx HJ).kept hx)
         clear hx rx ry
         generalize Sort.grow (redrawn wr dq) osq = W3 at *
         have hp : Sort.ltInt dj[q + 1]! dj[q]! = false := by rw [← yx Hx, ← yx Hy, hL]
         clear cL Hx Hy
         go_wp2_with fail
         go_meet
         exact ⟨dj, yz ((yx HJ).to (fun h => (congrArg (fun e => Sort.partialIns Sort.ltInt a b s (m + 1) (Sort.fixUp Sort.ltInt b (m + 1) e)) (gG hp)).symm.trans h))⟩
        ·rw [hL] at cL
         go_wp2_with fail
         refine wp_region_quiet_below (by kernel_rfl) (by kernel_rfl) ?_
         repeat (go_big_quiet_step (first | (with_reducible exact Calls.regrown_of (yx cL _))))
         refine wpQuiet_nil ?_
         intro _ hw'
         obtain ⟨⟨dq, osq⟩, hw''⟩ := hw'
         subst hw''
         have hx := below_regrown wr dq osq
         replace HJ := yz ((yx HJ).kept hx)
         clear hx rx ry
         generalize Sort.grow (redrawn wr dq) osq = W3 at *
         have hp : Sort.ltInt dj[q + 1]! dj[q]! = true := by rw [← yx Hx, ← yx Hy, hL]
         have cx : W3.cell? ⟨g, q + 1, none⟩ = some (.int .u8 x) := by rw [yx Hx]; exact (yx HJ).row.cells (q + 1) (by have := (yx HJ).size; omega)
         have cy : W3.cell? ⟨g, q, none⟩ = some (.int .u8 y) := by rw [yx Hy]; exact (yx HJ).row.cells (q) (by have := (yx HJ).size; omega)
         have fx := (yx HJ).row.free (q + 1) (by have := (yx HJ).size; omega)
         have fy := (yx HJ).row.free (q) (by have := (yx HJ).size; omega)
         have HI : Hid (StK n w0 g (fun e => Sort.partialIns Sort.ltInt a b s (m + 1) (Sort.fixUp Sort.ltInt b (m + 1) (Sort.shiftDown Sort.ltInt q e)) = R) (Sort.swp dj (q + 1) (q)) (((W3.setCell ⟨g, q + 1, none⟩ (.int .u8 y)).setCell ⟨g, q, none⟩ (.int .u8 x)).drew)) := yz ((yx HJ).put (by omega) (by omega) Hx Hy (fun h => (congrArg (fun e => Sort.partialIns Sort.ltInt a b s (m + 1) (Sort.fixUp Sort.ltInt b (m + 1) e)) (iV hp)).symm.trans h))
         clear HJ Hx Hy cL
         go_wp2_with fail
         go_region
         go_wp2_with fail
         go_roundw
         case rel => exact ⟨q, _, by go_num, by omega, HI⟩
         case measure => simp [intOf] <;> omega
       ·have hjz : ¬ (1 : Int) ≤ (j : Int) := by omega
        have hj0 : Sort.shiftDown Sort.ltInt j dj = dj := by rw [show j = 0 by omega]; rfl
        have HI3 : Hid (StK n w0 g (fun e => Sort.partialIns Sort.ltInt a b s (m + 1) (Sort.fixUp Sort.ltInt b (m + 1) e) = R) dj wr) := yz ((yx HJ).to (fun h => (congrArg (fun e => Sort.partialIns Sort.ltInt a b s (m + 1) (Sort.fixUp Sort.ltInt b (m + 1) e)) hj0).symm.trans h))
        clear HJ hj0
        go_wp2_with fail
        go_meet
        exact ⟨dj, HI3⟩
     ·have h2z : ¬ (2 : Int) ≤ (m : Int) + 1 - (a : Int) := by omega
      go_wp2_with fail
      go_meet
      exact ⟨d2, yz ((yx HI).to (fun h => by unfold Sort.fixDown at h; rw [if_neg h2] at h; exact h))⟩
    case rest =>
     obtain ⟨d3, HJ⟩ := hcut
     clear HI
     by_cases h3 : b - (m + 1) ≥ 2
     ·have h3z : (2 : Int) ≤ (b : Int) - ((m : Int) + 1) := by omega
      have HI2 : Hid (StK n w0 g (fun e => Sort.partialIns Sort.ltInt a b s (m + 1) (Sort.shiftUp Sort.ltInt b (m + 1 + 1) e) = R) d3 wc) := yz ((yx HJ).to (fun h => by unfold Sort.fixUp at h; rw [if_pos h3] at h; exact h))
      clear HJ
      go_wp2_with fail
      go_loopw [10] (fun v wt => ∃ (j : Nat) (dj : Array Int), v = .int .i64 j ∧ m < j ∧ j ≤ b ∧ Hid (StK n w0 g (fun e => Sort.partialIns Sort.ltInt a b s (m + 1) (Sort.shiftUp Sort.ltInt b j e) = R) dj wt)) (fun v _ => b - (intOf v).toNat)
      case atStart => exact ⟨m + 1 + 1, d3, by go_num, by omega, by omega, HI2⟩
      case round =>
       obtain ⟨j, dj, rfl, hjm, hjb, HJ⟩ := hrel
       clear HI2
       by_cases hj1 : j < b
       ·obtain ⟨q, rfl⟩ : ∃ t, j = t + 1 := ⟨j - 1, by omega⟩
        have hjz : (q : Int) + 1 < (b : Int) := by omega
        have hqn : q < n := by omega
        have hqn1 : q + 1 < n := by omega
        obtain ⟨x, Hx⟩ : ∃ x, Hid (x = dj[q + 1]!) := ⟨_, yz rfl⟩
        obtain ⟨y, Hy⟩ : ∃ x, Hid (x = dj[q]!) := ⟨_, yz rfl⟩
        have cx : wr.cell? ⟨g, q + 1, none⟩ = some (.int .u8 x) := by rw [yx Hx]; exact (yx HJ).row.cells (q + 1) (by have := (yx HJ).size; omega)
        have cy : wr.cell? ⟨g, q, none⟩ = some (.int .u8 y) := by rw [yx Hy]; exact (yx HJ).row.cells (q) (by have := (yx HJ).size; omega)
        have cL := yz (fun (W : World) => aA x y W)
        have rx := cell_regrown cx
        have ry := cell_regrown cy
        clear cx cy
        cases hL : Sort.ltInt x y
        ·rw [hL] at cL
         go_wp2_with fail
         refine wp_region_quiet_below (by kernel_rfl) (by kernel_rfl) ?_
         repeat (go_big_quiet_step (first | (with_reducible exact Calls.regrown_of (yx cL _))))
         refine wpQuiet_nil ?_
         intro _ hw'
         obtain ⟨⟨dq, osq⟩, hw''⟩ := hw'
         subst hw''
         have hx := below_regrown wr dq osq
         replace HJ := yz ((yx HJ).kept hx)
         clear hx rx ry
         generalize Sort.grow (redrawn wr dq) osq = W3 at *
         have hp : Sort.ltInt dj[q + 1]! dj[q]! = false := by rw [← yx Hx, ← yx Hy, hL]
         clear cL Hx Hy
         have HE9 : Hid (StK n w0 g (fun e => Sort.partialIns Sort.ltInt a b s (m + 1) e = R) dj W3) := yz ((yx HJ).to (fun h => (congrArg (Sort.partialIns Sort.ltInt a b s (m + 1)) (iY hp)).symm.trans h))
         clear HJ
         go_wp2_with fail
         go_roundw
         case rel => exact ⟨m + 1, k + 1, s, dj, by go_num, by go_num, by omega, by omega, by omega, HE9⟩
         case measure => simp [intOf] <;> omega
        ·rw [hL] at cL
         go_wp2_with fail
         refine wp_region_quiet_below (by kernel_rfl) (by kernel_rfl) ?_
         repeat (go_big_quiet_step (first | (with_reducible exact Calls.regrown_of (yx cL _))))
         refine wpQuiet_nil ?_
         intro _ hw'
         obtain ⟨⟨dq, osq⟩, hw''⟩ := hw'
         subst hw''
         have hx := below_regrown wr dq osq
         replace HJ := yz ((yx HJ).kept hx)
         clear hx rx ry
         generalize Sort.grow (redrawn wr dq) osq = W3 at *
         have hp : Sort.ltInt dj[q + 1]! dj[q]! = true := by rw [← yx Hx, ← yx Hy, hL]
         have cx : W3.cell? ⟨g, q + 1, none⟩ = some (.int .u8 x) := by rw [yx Hx]; exact (yx HJ).row.cells (q + 1) (by have := (yx HJ).size; omega)
         have cy : W3.cell? ⟨g, q, none⟩ = some (.int .u8 y) := by rw [yx Hy]; exact (yx HJ).row.cells (q) (by have := (yx HJ).size; omega)
         have fx := (yx HJ).row.free (q + 1) (by have := (yx HJ).size; omega)
         have fy := (yx HJ).row.free (q) (by have := (yx HJ).size; omega)
         have HI : Hid (StK n w0 g (fun e => Sort.partialIns Sort.ltInt a b s (m + 1) (Sort.shiftUp Sort.ltInt b (q + 1 + 1) e) = R) (Sort.swp dj (q + 1) (q)) (((W3.setCell ⟨g, q + 1, none⟩ (.int .u8 y)).setCell ⟨g, q, none⟩ (.int .u8 x)).drew)) := yz ((yx HJ).put (by omega) (by omega) Hx Hy (fun h => (congrArg (Sort.partialIns Sort.ltInt a b s (m + 1)) (jM hj1 hp)).symm.trans h))
         clear HJ Hx Hy cL
         go_wp2_with fail
         go_region
         go_wp2_with fail
         go_roundw
         case rel => exact ⟨q + 1 + 1, _, by go_num, by omega, by omega, HI⟩
         case measure => simp [intOf] <;> omega
       ·have hjz : ¬ (j : Int) < (b : Int) := by omega
        have HE9 : Hid (StK n w0 g (fun e => Sort.partialIns Sort.ltInt a b s (m + 1) e = R) dj wr) := yz ((yx HJ).to (fun h => (congrArg (Sort.partialIns Sort.ltInt a b s (m + 1)) (jy hj1)).symm.trans h))
        clear HJ
        go_wp2_with fail
        go_roundw
        case rel => exact ⟨m + 1, k + 1, s, dj, by go_num, by go_num, by omega, by omega, by omega, HE9⟩
        case measure => simp [intOf] <;> omega
     ·have h3z : ¬ (2 : Int) ≤ (b : Int) - ((m : Int) + 1) := by omega
      have HE9 : Hid (StK n w0 g (fun e => Sort.partialIns Sort.ltInt a b s (m + 1) e = R) d3 wc) := yz ((yx HJ).to (fun h => by unfold Sort.fixUp at h; rw [if_neg h3] at h; exact h))
      clear HJ
      go_wp2_with fail
      go_roundw
      case rel => exact ⟨m + 1, k + 1, s, d3, by go_num, by go_num, by omega, by omega, by omega, HE9⟩
      case measure => simp [intOf] <;> omega
  ·have hkz : ¬ (k : Int) < 5 := by omega
   have hs0 : s = 0 := by omega
   subst hs0
   have hR : Sort.partialIns Sort.ltInt a b 0 i dk = R := (yx HK).same
   have hR2 : (dk, false) = R := hR
   subst hR2
   have HK2 := yz (yx HK).row
   clear HK hR
   go_wp2_with fail
   go_ret
   exact ⟨rfl, yx HK2⟩
end
end Go.Proofs.Ytackifnnhjbgbaa
