/- Several texts in one: StB. -/
import Derived.Test.YtackifnnhjbgbaaQFnFrameOwn11
namespace Go.Proofs.Ytackifnnhjbgbaa
set_option linter.unusedVariables false
set_option linter.unusedSimpArgs false
set_option maxRecDepth 100000
set_option maxHeartbeats 8000000
section
open Go.RowKit
theorem hD {a j : Nat} {d : Array Int} (h : ¬ a < j) : Sort.insInner Sort.ltInt a j d = d := by
 cases j with
 | zero => rfl
 | succ j => rw [Sort.insInner, if_neg]; simp; omega
theorem iD {a j : Nat} {d : Array Int} (h : Sort.ltInt d[j + 1]! d[j]! = false) : Sort.insInner Sort.ltInt a (j + 1) d = d := by
 rw [Sort.insInner, h]; simp
theorem jH {a j : Nat} {d : Array Int} (h0 : a < j + 1) (h : Sort.ltInt d[j + 1]! d[j]! = true) : Sort.insInner Sort.ltInt a (j + 1) d = Sort.insInner Sort.ltInt a j (Sort.swp d (j + 1) j) := by
 conv => lhs; rw [Sort.insInner, h]
 simp [h0]
structure StK (n : Nat) (w0 : World) (g : Nat) (P : Array Int → Prop) (dk : Array Int) (wr : World) : Prop where
 size : dk.size = n
 same : P dk
 row : aN w0 g dk wr
theorem StK.kept {n : Nat} {w0 wr wx : World} {g : Nat} {P : Array Int → Prop} {dk : Array Int} (h : StK n w0 g P dk wr) (hB : Below wr.heap.size wr wx) : StK n w0 g P dk wx := ⟨h.size, h.same, h.row.kept hB⟩
theorem StK.put {n : Nat} {w0 wr : World} {g : Nat} {P Q : Array Int → Prop} {dk : Array Int} (h : StK n w0 g P dk wr) {i j : Nat} (hi : i < n) (hj : j < n) {x y : Int} (hx : Hid (x = dk[i]!)) (hy : Hid (y = dk[j]!)) (hq : P dk → Q (Sort.swp dk i j)) :
  StK n w0 g Q (Sort.swp dk i j) ((wr.setCell ⟨g, i, none⟩ (.int .u8 y)).setCell ⟨g, j, none⟩ (.int .u8 x)).drew :=
 ⟨by rw [Sort.size_swp]; exact h.size, hq h.same, h.row.swp2 h.size i j hi hj hx hy⟩
theorem StK.to {n : Nat} {w0 wr : World} {g : Nat} {P Q : Array Int → Prop} {dk : Array Int} (h : StK n w0 g P dk wr) (hq : P dk → Q dk) : StK n w0 g Q dk wr := ⟨h.size, hq h.same, h.row⟩
theorem ef (g cap a b : Nat) (d : Array Int) (w0 w : World) (hS : aN w0 g d w) (hab : a ≤ b) (hb : b ≤ d.size) (hsz : d.size ≤ 1048576) :
  Calls Try.prog 37 #[.slice (some ⟨g, 0, none⟩) d.size cap, .int .i64 a, .int .i64 b] w fun e w' => e = .returned (.tuple #[]) ∧ aN w0 g (Sort.insertionSort Sort.ltInt d a b) w' := by
 obtain ⟨n, hn⟩ : ∃ n, n = d.size := ⟨_, rfl⟩
 have HK0 : Hid (StK n w0 g (fun e => Sort.insOuter Sort.ltInt a b (a + 1) e = Sort.insertionSort Sort.ltInt d a b) d w) := yz ⟨hn.symm, rfl, hS⟩
 obtain ⟨R, HR⟩ : ∃ R, Hid (R = Sort.insertionSort Sort.ltInt d a b) := ⟨_, yz rfl⟩
 rw [← yx HR] at HK0 ⊢
 rw [← hn] at hb hsz ⊢
 clear hS hn HR
 go_enter Try.func37, Try.ntmps37
 go_wp2_with fail
 go_loopw [6] (fun u wr => ∃ (i : Nat) (dk : Array Int), u = .int .i64 i ∧ a < i ∧ i ≤ 1048577 ∧ Hid (StK n w0 g (fun e => Sort.insOuter Sort.ltInt a b i e = R) dk wr)) (fun u _ => b - (intOf u).toNat)
 case atStart => exact ⟨a + 1, d, by go_num, by omega, by omega, HK0⟩
 case round =>
  obtain ⟨i, dk, rfl, hi, hi9, HK⟩ := hrel
  by_cases hlt : (i : Int) < (b : Int)
  ·have hRi : Hid (∀ e : Array Int, Sort.insOuter Sort.ltInt a b i e = Sort.insOuter Sort.ltInt a b (i + 1) (Sort.insInner Sort.ltInt a i e)) := yz (fun e => by conv => lhs; rw [Sort.insOuter, if_pos (show i < b by omega)])
   go_wp2_with fail
   go_loopw [7] (fun v ws => ∃ (j : Nat) (dj : Array Int), v = .int .i64 j ∧ a ≤ j ∧ j ≤ i ∧ Hid (StK n w0 g (fun e => Sort.insOuter Sort.ltInt a b (i + 1) (Sort.insInner Sort.ltInt a j e) = R) dj ws)) (fun v _ => (intOf v).toNat)
   case atStart => exact ⟨i, dk, rfl, by omega, by omega, yz ((yx HK).to (fun h => by rw [← yx hRi]; exact h))⟩
   case round =>
    obtain ⟨j, dj, rfl, hj, hji, HJ⟩ := hrel
    clear HK
    by_cases haj : a < j
    ·obtain ⟨m, rfl⟩ : ∃ m, j = m + 1 := ⟨j - 1, by omega⟩
     have hm : m < n := by omega
     have hm1 : m + 1 < n := by omega
     have haz : (a : Int) < (m : Int) + 1 := by omega
     obtain ⟨x, Hx⟩ : ∃ x, Hid (x = dj[m + 1]!) := ⟨_, yz rfl⟩
     obtain ⟨y, Hy⟩ : ∃ y, Hid (y = dj[m]!) := ⟨_, yz rfl⟩
     have cx : wr.cell? ⟨g, m + 1, none⟩ = some (.int .u8 x) := by rw [yx Hx]; exact (yx HJ).row.cells (m + 1) (by have := (yx HJ).size; omega)
     have cy : wr.cell? ⟨g, m, none⟩ = some (.int .u8 y) := by rw [yx Hy]; exact (yx HJ).row.cells m (by have := (yx HJ).size; omega)
     have cL := yz (fun (W : World) => aA x y W)
     have rx := cell_regrown cx
     have ry := cell_regrown cy
     clear cx cy
     cases hL : Sort.ltInt x y
     ·rw [hL] at cL
      go_wp2_with fail
      refine wp_region_quiet_below (by kernel_rfl) (by kernel_rfl) ?_
      repeat (go_big_quiet_step (first | (with_reducible exact Calls.regrown_of (yx cL _))))
      refine wpQuiet_nil ?_
      intro _ hw'
      obtain ⟨⟨dq, osq⟩, hw''⟩ := hw'
      subst hw''
      have hx := below_regrown wr dq osq
      replace HJ := yz ((yx HJ).kept hx)
      clear hx rx ry
      generalize Sort.grow (redrawn wr dq) osq = W2 at *
      have HI : Hid (StK n w0 g (fun e => Sort.insOuter Sort.ltInt a b (i + 1) e = R) dj W2) := yz ((yx HJ).to (fun h => (congrArg (Sort.insOuter Sort.ltInt a b (i + 1)) (iD (by rw [← yx Hx, ← yx Hy]; exact hL))).symm.trans h))
      clear HJ Hx Hy cL
      go_wp2_with fail
      go_roundw
      case rel => exact ⟨i + 1, dj, by go_num, by omega, by omega, HI⟩
      case measure => simp [intOf] <;> omega
     ·rw [hL] at cL
      go_wp2_with fail
      refine wp_region_quiet_below (by kernel_rfl) (by kernel_rfl) ?_
      repeat (go_big_quiet_step (first | (with_reducible exact Calls.regrown_of (yx cL _))))
      refine wpQuiet_nil ?_
      intro _ hw'
      obtain ⟨⟨dq, osq⟩, hw''⟩ := hw'
      subst hw''
      have hx := below_regrown wr dq osq
      replace HJ := yz ((yx HJ).kept hx)
      clear hx rx ry
      generalize Sort.grow (redrawn wr dq) osq = W2 at *
      have cx : W2.cell? ⟨g, m + 1, none⟩ = some (.int .u8 x) := by rw [yx Hx]; exact (yx HJ).row.cells (m + 1) (by have := (yx HJ).size; omega)
      have cy : W2.cell? ⟨g, m, none⟩ = some (.int .u8 y) := by rw [yx Hy]; exact (yx HJ).row.cells m (by have := (yx HJ).size; omega)
      have fx := (yx HJ).row.free (m + 1) (by have := (yx HJ).size; omega)
      have fy := (yx HJ).row.free m (by have := (yx HJ).size; omega)
      have hst : Sort.ltInt dj[m + 1]! dj[m]! = true := by rw [← yx Hx, ← yx Hy]; exact hL
      have HI : Hid (StK n w0 g (fun e => Sort.insOuter Sort.ltInt a b (i + 1) (Sort.insInner Sort.ltInt a m e) = R) (Sort.swp dj (m + 1) m) (((W2.setCell ⟨g, m + 1, none⟩ (.int .u8 y)).setCell ⟨g, m, none⟩ (.int .u8 x)).drew)) := yz ((yx HJ).put hm1 hm Hx Hy (fun h => (congrArg (Sort.insOuter Sort.ltInt a b (i + 1)) (jH (by omega) hst)).symm.trans h))
      clear HJ Hx Hy cL hst
      go_wp2_with fail
      go_region
      go_wp2_with fail
      go_roundw
      case rel => exact ⟨m, Sort.swp dj (m + 1) m, by go_num, by omega, by omega, HI⟩
      case measure => simp [intOf] <;> omega
    ·have haz : decide ((a : Int) < (j : Int)) = false := decide_eq_false (by omega)
     go_wp2_with fail
     refine wp_region_quiet_below (by kernel_rfl) (by kernel_rfl) ?_
     repeat (go_big_quiet_step (fail))
     refine wpQuiet_nil ?_
     intro _ hw'
     obtain ⟨⟨dq, osq⟩, hw''⟩ := hw'
     subst hw''
     have hx := below_regrown wr dq osq
     replace HJ := yz ((yx HJ).kept hx)
     clear hx 
     generalize Sort.grow (redrawn wr dq) osq = W2 at *
     have HI : Hid (StK n w0 g (fun e => Sort.insOuter Sort.ltInt a b (i + 1) e = R) dj W2) := yz ((yx HJ).to (fun h => (congrArg (Sort.insOuter Sort.ltInt a b (i + 1)) (hD haj)).symm.trans h))
     clear HJ
     go_wp2_with fail
     go_roundw
     case rel => exact ⟨i + 1, dj, by go_num, by omega, by omega, HI⟩
     case measure => simp [intOf] <;> omega
  ·have hR : Sort.insOuter Sort.ltInt a b i dk = R := (yx HK).same
   rw [Sort.insOuter, if_neg (show ¬ i < b by omega)] at hR
   subst hR
   have HK2 := yz (yx HK).row
   clear HK
   go_wp2_with fail
   go_end0
   exact ⟨rfl, yx HK2⟩
end
end Go.Proofs.Ytackifnnhjbgbaa
