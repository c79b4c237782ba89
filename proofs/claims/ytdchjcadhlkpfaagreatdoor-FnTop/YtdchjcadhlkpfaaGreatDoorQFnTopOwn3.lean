/- Several texts in one: TurnC, TurnF, SeenA, VecJ, VecK, PairA, PairB, PairC, PairD, PairE, PairF, VecL, PairM, PairN, DsN, DsA, DsG, SeenB, SeenC, FrB, BlM. -/
import Derived.BigRegion
import Derived.Lib.QuietBelow
import Derived.OwnWalk
import Derived.Laws.OwnMore
import Derived.Test.YtdchjcadhlkpfaaGreatDoorQFnTopOwn2
import Derived.Test.YtdchjcadhlkpfaaGreatDoorQFnTopOwn1
namespace Go.Proofs.YtdchjcadhlkpfaaGreatDoor
set_option linter.unusedVariables false
set_option linter.unusedSimpArgs false
set_option maxRecDepth 100000
set_option maxHeartbeats 8000000
section
open Go.RowKit Go.Sort
def ptT (a b c d : Int) : Nat → Int
 | 0 => a
 | 1 => b
 | 2 => c
 | _ => d
def gS4 (a b c d : Int) : Nat → Int
 | 0 => 0
 | k + 1 => ((Int.gcd (gS4 a b c d k) (ptT a b c d k) : Nat) : Int)
def fS4 (a b c d : Int) : Nat → Int
 | 0 => 0
 | k + 1 => if fS4 a b c d k = 0 then ptT a b c d k else fS4 a b c d k
theorem kG {m a b c d : Int} (h : inT m a b c d = true) (k : Nat) : -m ≤ ptT a b c d k ∧ ptT a b c d k ≤ m := by
 obtain ⟨h1, h2, h3, h4⟩ := bw.1 h
 match k with
 | 0 => exact h1
 | 1 => exact h2
 | 2 => exact h3
 | _ + 3 => exact h4
theorem kM {a b c d : Int} (h : inT 1000 a b c d = true) (k : Nat) : -1000000 ≤ gS4 a b c d k ∧ gS4 a b c d k ≤ 1000000 := by
 have : 0 ≤ gS4 a b c d k ∧ gS4 a b c d k ≤ 1000 := by
  induction k with
  | zero => exact ⟨by show (0 : Int) ≤ 0; omega, by show (0 : Int) ≤ 1000; omega⟩
  | succ k ih => exact mq (m := 1000) (by omega) (kG h k)
 omega
theorem vg (a b c d : Int) : fS4 a b c d 4 = fT a b c d := by
 unfold fT
 by_cases h1 : a = 0
 ·by_cases h2 : b = 0
  ·by_cases h3 : c = 0
   ·simp [fS4, ptT, h1, h2, h3]
   ·simp [fS4, ptT, h1, h2, h3]
  ·simp [fS4, ptT, h1, h2]
 ·simp [fS4, ptT, h1]
theorem qs {a b c d : Int} {k : Nat} (h : fS4 a b c d k = 0) : fS4 a b c d (k + 1) = ptT a b c d k := by
 show (if fS4 a b c d k = 0 then ptT a b c d k else fS4 a b c d k) = _
 rw [if_pos h]
theorem qh {a b c d : Int} {k : Nat} (h : fS4 a b c d k ≠ 0) : fS4 a b c d (k + 1) = fS4 a b c d k := by
 show (if fS4 a b c d k = 0 then ptT a b c d k else fS4 a b c d k) = _
 rw [if_neg h]
theorem jn (a b c d : Int) (w : World) (h : inT 1000 a b c d = true) (hz : ¬ (a = 0 ∧ b = 0 ∧ c = 0 ∧ d = 0)) :
  Calls Tryz.prog 126 #[.agg #[.int .i64 a, .int .i64 b, .int .i64 c, .int .i64 d]] w fun e w' => e = .returned (.agg #[.int .i64 (a.tdiv (sT a b c d)), .int .i64 (b.tdiv (sT a b c d)), .int .i64 (c.tdiv (sT a b c d)), .int .i64 (d.tdiv (sT a b c d))]) ∧ Below w.heap.size w w' := by
 have i0 : ∀ w : World, (Instr.index 196 (.agg #[.int .i64 a, .int .i64 b, .int .i64 c, .int .i64 d]) (.int .i64 0)).run Tryz.prog w = .ok (.int .i64 a) w := fun _ => by kernel_rfl
 have i1 : ∀ w : World, (Instr.index 196 (.agg #[.int .i64 a, .int .i64 b, .int .i64 c, .int .i64 d]) (.int .i64 1)).run Tryz.prog w = .ok (.int .i64 b) w := fun _ => by kernel_rfl
 have i2 : ∀ w : World, (Instr.index 196 (.agg #[.int .i64 a, .int .i64 b, .int .i64 c, .int .i64 d]) (.int .i64 2)).run Tryz.prog w = .ok (.int .i64 c) w := fun _ => by kernel_rfl
 have i3 : ∀ w : World, (Instr.index 196 (.agg #[.int .i64 a, .int .i64 b, .int .i64 c, .int .i64 d]) (.int .i64 3)).run Tryz.prog w = .ok (.int .i64 d) w := fun _ => by kernel_rfl
 have HI := yz h
 have HZ := yz hz
 have HW : Hid (∀ (x s : Int), -1000 ≤ x ∧ x ≤ 1000 → wrap64 (x.tdiv s) = x.tdiv s) := yz (fun x s hx => by have := uP (s := s) hx; exact ap (by omega) (by omega))
 clear h hz
 go_enter Tryz.func126, Tryz.ntmps126
 go_wp2_with fail
 refine (gB a b c d _).mono ?_
 rintro e w1 ⟨rfl, hB1⟩
 have va : aC w1 w.heap.size a b c d := ((aM w a b c d _).alloc _).kept (by simp; omega) hB1
 have vr : aC w1 (w.heap.size + 1) 0 0 0 0 := (by simpa using aM (w.alloc _) 0 0 0 0 _ : aC _ (w.heap.size + 1) 0 0 0 0).kept (by simp) hB1
 have fr : ca w1 (w.heap.size + 1) := (by simpa using iV (w.alloc _) 0 0 0 0 _ : ca _ (w.heap.size + 1)).kept (by simp) hB1
 have hB : Below w.heap.size w w1 := ak (aH _ _ _) hB1
 clear hB1
 have Va := yz va
 have Vr := yz vr
 have Fr := yz fr
 have HB := yz hB
 clear va vr fr hB
 go_wp2_with fail
 go_loopw [3, 4, 9] (fun u f i wr => ∃ (k n : Nat), k ≤ 4 ∧ i = .int .i64 k ∧ u = .int .i64 (gS4 a b c d k) ∧ f = .int .i64 (fS4 a b c d k) ∧ wr = w1.drewN n) (fun _ _ i _ => 4 - (intOf i).toNat)
 case atStart => exact ⟨0, 0, by omega, rfl, rfl, rfl, rfl⟩
 case round =>
  obtain ⟨k, n, hk, rfl, rfl, rfl, rfl⟩ := hrel
  have hk5 : k = 0 ∨ k = 1 ∨ k = 2 ∨ k = 3 ∨ k = 4 := by omega
  rcases hk5 with rfl | rfl | rfl | rfl | rfl
  ·go_wp2_with fail
   refine (ck _ a _ (kM (yy HI) 0) (by have := kG (yy HI) 0; simp only [ptT] at this; omega)).mono ?_
   rintro e w3 ⟨rfl, m, rfl⟩
   have hg : ((Int.gcd (gS4 a b c d 0) a : Nat) : Int) = gS4 a b c d 1 := rfl
   rw [hg]
   clear hg
   by_cases hf : fS4 a b c d 0 = 0
   ·have HF := yz (qs hf)
    rw [hf]
    clear hf
    go_wp2_with fail
    go_roundw
    case rel => exact ⟨1, n + m, by omega, rfl, rfl, by rw [yy HF]; rfl, by simp⟩
    case measure => simp [intOf]
   ·have HF := yz (qh hf)
    have hb : (fS4 a b c d 0 == 0) = false := by simpa using hf
    clear hf
    go_wp2_with fail
    go_roundw
    case rel => exact ⟨1, n + m, by omega, rfl, rfl, by rw [yy HF], by simp⟩
    case measure => simp [intOf]
  ·go_wp2_with fail
   refine (ck _ b _ (kM (yy HI) 1) (by have := kG (yy HI) 1; simp only [ptT] at this; omega)).mono ?_
   rintro e w3 ⟨rfl, m, rfl⟩
   have hg : ((Int.gcd (gS4 a b c d 1) b : Nat) : Int) = gS4 a b c d 2 := rfl
   rw [hg]
   clear hg
   by_cases hf : fS4 a b c d 1 = 0
   ·have HF := yz (qs hf)
    rw [hf]
    clear hf
    go_wp2_with fail
    go_roundw
    case rel => exact ⟨2, n + m, by omega, rfl, rfl, by rw [yy HF]; rfl, by simp⟩
    case measure => simp [intOf]
   ·have HF := yz (qh hf)
    have hb : (fS4 a b c d 1 == 0) = false := by simpa using hf
    clear hf
    go_wp2_with fail
    go_roundw
    case rel => exact ⟨2, n + m, by omega, rfl, rfl, by rw [yy HF], by simp⟩
    case measure => simp [intOf]
  ·go_wp2_with fail
   refine (ck _ c _ (kM (yy HI) 2) (by have := kG (yy HI) 2; simp only [ptT] at this; omega)).mono ?_
   rintro e w3 ⟨rfl, m, rfl⟩
   have hg : ((Int.gcd (gS4 a b c d 2) c : Nat) : Int) = gS4 a b c d 3 := rfl
   rw [hg]
   clear hg
   by_cases hf : fS4 a b c d 2 = 0
   ·have HF := yz (qs hf)
    rw [hf]
    clear hf
    go_wp2_with fail
    go_roundw
    case rel => exact ⟨3, n + m, by omega, rfl, rfl, by rw [yy HF]; rfl, by simp⟩
    case measure => simp [intOf]
   ·have HF := yz (qh hf)
    have hb : (fS4 a b c d 2 == 0) = false := by simpa using hf
    clear hf
    go_wp2_with fail
    go_roundw
    case rel => exact ⟨3, n + m, by omega, rfl, rfl, by rw [yy HF], by simp⟩
    case measure => simp [intOf]
  ·go_wp2_with fail
   refine (ck _ d _ (kM (yy HI) 3) (by have := kG (yy HI) 3; simp only [ptT] at this; omega)).mono ?_
   rintro e w3 ⟨rfl, m, rfl⟩
   have hg : ((Int.gcd (gS4 a b c d 3) d : Nat) : Int) = gS4 a b c d 4 := rfl
   rw [hg]
   clear hg
   by_cases hf : fS4 a b c d 3 = 0
   ·have HF := yz (qs hf)
    rw [hf]
    clear hf
    go_wp2_with fail
    go_roundw
    case rel => exact ⟨4, n + m, by omega, rfl, rfl, by rw [yy HF]; rfl, by simp⟩
    case measure => simp [intOf]
   ·have HF := yz (qh hf)
    have hb : (fS4 a b c d 3 == 0) = false := by simpa using hf
    clear hf
    go_wp2_with fail
    go_roundw
    case rel => exact ⟨4, n + m, by omega, rfl, rfl, by rw [yy HF], by simp⟩
    case measure => simp [intOf]
  ·have hg : gS4 a b c d 4 = gT a b c d := nj a b c d
   rw [hg, vg]
   clear hg i0 i1 i2 i3
   have hw : wrap64 (-gT a b c d) = -gT a b c d := by have := kM (yy HI) 4; rw [show gS4 a b c d 4 = gT a b c d from nj a b c d] at this; exact ap (by omega) (by omega)
   have HE : Hid (∀ g, g = sT a b c d → Value.agg #[.int .i64 (wrap64 (a.tdiv g)), .int .i64 (wrap64 (b.tdiv g)), .int .i64 (wrap64 (c.tdiv g)), .int .i64 (wrap64 (d.tdiv g))] = .agg #[.int .i64 (a.tdiv (sT a b c d)), .int .i64 (b.tdiv (sT a b c d)), .int .i64 (c.tdiv (sT a b c d)), .int .i64 (d.tdiv (sT a b c d))]) := yz (by
    rintro g rfl
    obtain ⟨x1, x2, x3, x4⟩ := bw.1 (yy HI)
    rw [yy HW _ _ x1, yy HW _ _ x2, yy HW _ _ x3, yy HW _ _ x4])
   have HN : Hid (sT a b c d ≠ 0) := yz (wh (yy HZ))
   have va : aC (w1.drewN n) w.heap.size a b c d := yy Va
   have vr : aC (w1.drewN n) (w.heap.size + 1) 0 0 0 0 := yy Vr
   have fr : ca (w1.drewN n) (w.heap.size + 1) := yy Fr
   have hB : Below w.heap.size w (w1.drewN n) := ak (yy HB) (bC _ _)
   clear Va Vr Fr HB HW HI HZ
   by_cases hf : fT a b c d < 0
   ·have hs : sT a b c d = -gT a b c d := by unfold sT; rw [if_pos hf]
    have HG := yz hs.symm
    rw [hs] at HN
    go_wp2_with fail
    rw [hw]
    generalize -gT a b c d = g at HN HG ⊢
    clear hw hs hf
    have hne : g ≠ 0 := yy HN
    have hz0 : (g == 0) = false := by simpa using hne
    generalize w1.drewN n = w3 at va vr fr hB ⊢
    obtain ⟨ca0, ca1, ca2, ca3⟩ := va
    obtain ⟨cr0, cr1, cr2, cr3⟩ := vr
    obtain ⟨fr0, fr1, fr2, fr3⟩ := fr
    go_region
    go_wp2
    exact bodyPost_ret (v := _) (by simp [results, Tryz.results126, go_sem, cr0, cr1, cr2, cr3]) rfl ⟨congrArg _ (yy HE g (yy HG)), (bQ hB (by omega) _ _ _ _).drew⟩
   ·have hs : sT a b c d = gT a b c d := by unfold sT; rw [if_neg hf]
    have HG := yz hs.symm
    rw [hs] at HN
    go_wp2_with fail
    generalize gT a b c d = g at HN HG ⊢
    clear hw hs hf
    have hne : g ≠ 0 := yy HN
    have hz0 : (g == 0) = false := by simpa using hne
    generalize w1.drewN n = w3 at va vr fr hB ⊢
    obtain ⟨ca0, ca1, ca2, ca3⟩ := va
    obtain ⟨cr0, cr1, cr2, cr3⟩ := vr
    obtain ⟨fr0, fr1, fr2, fr3⟩ := fr
    go_region
    go_wp2
    exact bodyPost_ret (v := _) (by simp [results, Tryz.results126, go_sem, cr0, cr1, cr2, cr3]) rfl ⟨congrArg _ (yy HE g (yy HG)), (bQ hB (by omega) _ _ _ _).drew⟩
theorem jp {a b c d : Int} (h : eT a b c d = false) : ¬ (a = 0 ∧ b = 0 ∧ c = 0 ∧ d = 0) := fun e => by rw [jc.2 e] at h; exact absurd h (by decide)
theorem nY {a b c d : Int} (h : eT a b c d = true) : az a b c d = false := by
 cases hr : az a b c d
 ·rfl
 ·exact absurd (jc.1 h) (rV hr)
theorem aK (a b c d : Int) (w : World) :
  Calls Tryz.prog 97 #[.agg #[.int .i64 a, .int .i64 b, .int .i64 c, .int .i64 d]] w fun e w' => e = .returned (.bool (az a b c d)) ∧ Below w.heap.size w w' := by
 have hn := fun w => sN a b c d 0 0 0 0 w
 have va0 := aM w a b c d 43
 have hB0 := an w (.cells #[.int .i64 a, .int .i64 b, .int .i64 c, .int .i64 d] 43)
 cases hz : eqT a b c d 0 0 0 0
 ·rw [hz] at hn
  have HZ := yz (jp (show eT a b c d = false from hz))
  cases h5 : inT 5 a b c d
  ·have HR : Hid (az a b c d = false) := yz (by rw [az, h5]; rfl)
   have cW := yz (fun W => (fU 5 a b c d W (by omega) (by omega)).mono (fun e w' h => (⟨by rw [h.1, h5], h.2⟩ : e = .returned (.bool false) ∧ Below W.heap.size W w')))
   clear h5 hz
   go_enter Tryz.func97, Tryz.ntmps97
   go_wp2_with fail
   generalize w.alloc (.cells #[.int .i64 a, .int .i64 b, .int .i64 c, .int .i64 d] 43) = w1 at va0 hB0 ⊢
   obtain ⟨c0, c1, c2, c3⟩ := va0
   have k0 := cell_regrown c0
   have k1 := cell_regrown c1
   have k2 := cell_regrown c2
   have k3 := cell_regrown c3
   refine wp_region_quiet_below (by kernel_rfl) (by kernel_rfl) ?_
   repeat (quiet_step (exact Calls.regrown_of (yy cW _)))
   refine wpQuiet_nil ?_
   intro _ hw'
   obtain ⟨⟨dq, osq⟩, hw''⟩ := hw'
   subst hw''
   clear c0 c1 c2 c3 k0 k1 k2 k3 hn
   go_wp2
   go_ret
   exact ⟨by rw [yy HR]; rfl, ak hB0 (below_regrown w1 dq osq)⟩
  ·have HR := yz (lp (yy HZ))
   have HT : Hid (az a b c d = (decide (0 < fT a b c d) && decide (gT a b c d = 1))) := yz (by rw [az, h5, Bool.true_and])
   have cW := yz (fun W => (fU 5 a b c d W (by omega) (by omega)).mono (fun e w' h => (⟨by rw [h.1, h5], h.2⟩ : e = .returned (.bool true) ∧ Below W.heap.size W w')))
   have cR := yz (fun W => jn a b c d W (nt h5 (by omega)) (yy HZ))
   have he := fun w => kf a b c d (a.tdiv (sT a b c d)) (b.tdiv (sT a b c d)) (c.tdiv (sT a b c d)) (d.tdiv (sT a b c d)) w
   rw [yy HR] at he
   clear h5 hz HZ HR
   go_enter Tryz.func97, Tryz.ntmps97
   go_wp2_with fail
   generalize w.alloc (.cells #[.int .i64 a, .int .i64 b, .int .i64 c, .int .i64 d] 43) = w1 at va0 hB0 ⊢
   obtain ⟨c0, c1, c2, c3⟩ := va0
   have k0 := cell_regrown c0
   have k1 := cell_regrown c1
   have k2 := cell_regrown c2
   have k3 := cell_regrown c3
   refine wp_region_quiet_below (by kernel_rfl) (by kernel_rfl) ?_
   repeat (quiet_step (first | (with_reducible exact Calls.regrown_of (yy cW _)) | (with_reducible exact Calls.regrown_of (yy cR _))))
   refine wpQuiet_nil ?_
   intro _ hw'
   obtain ⟨⟨dq, osq⟩, hw''⟩ := hw'
   subst hw''
   clear c0 c1 c2 c3 k0 k1 k2 k3 hn he
   go_wp2
   go_ret
   exact ⟨by rw [yy HT]; rfl, ak hB0 (below_regrown w1 dq osq)⟩
 ·rw [hz] at hn
  have HR := yz (nY (show eT a b c d = true from hz))
  clear hz
  go_enter Tryz.func97, Tryz.ntmps97
  go_wp2_with fail
  generalize w.alloc (.cells #[.int .i64 a, .int .i64 b, .int .i64 c, .int .i64 d] 43) = w1 at va0 hB0 ⊢
  obtain ⟨c0, c1, c2, c3⟩ := va0
  have k0 := cell_regrown c0
  have k1 := cell_regrown c1
  have k2 := cell_regrown c2
  have k3 := cell_regrown c3
  refine wp_region_quiet_below (by kernel_rfl) (by kernel_rfl) ?_
  repeat (quiet_step (fail))
  refine wpQuiet_nil ?_
  intro _ hw'
  obtain ⟨⟨dq, osq⟩, hw''⟩ := hw'
  subst hw''
  clear c0 c1 c2 c3 k0 k1 k2 k3 hn
  go_wp2
  go_ret
  exact ⟨by rw [yy HR]; rfl, ak hB0 (below_regrown w1 dq osq)⟩
theorem qm {a b c d x y z : Int} (h : apR a b c d x y z = false) : Value.agg #[.int .i64 (apI (apR a b c d x y z) (apX a b c d x y z)), .int .i64 (apI (apR a b c d x y z) (apY a b c d x y z)), .int .i64 (apI (apR a b c d x y z) (apZ a b c d x y z))] = Value.agg #[.int .i64 0, .int .i64 0, .int .i64 0] := by
 rw [h]; rfl
theorem uR {a b c d x y z : Int} (h : apR a b c d x y z = true) : Value.agg #[.int .i64 (apI (apR a b c d x y z) (apX a b c d x y z)), .int .i64 (apI (apR a b c d x y z) (apY a b c d x y z)), .int .i64 (apI (apR a b c d x y z) (apZ a b c d x y z))] = Value.agg #[.int .i64 (apX a b c d x y z), .int .i64 (apY a b c d x y z), .int .i64 (apZ a b c d x y z)] := by
 rw [h]; rfl
theorem na {x y z : Int} (h : cc x y z = true) : aJ 1800 x y z = true := by unfold cc at h; rw [Bool.and_eq_true] at h; exact h.2
theorem lE (a b c d x y z : Int) (w : World) :
  Calls Tryz.prog 148 #[.agg #[.int .i64 a, .int .i64 b, .int .i64 c, .int .i64 d], .agg #[.int .i64 x, .int .i64 y, .int .i64 z]] w fun e w' => e = .returned (.agg #[.int .i64 (apI (apR a b c d x y z) (apX a b c d x y z)), .int .i64 (apI (apR a b c d x y z) (apY a b c d x y z)), .int .i64 (apI (apR a b c d x y z) (apZ a b c d x y z))]) ∧ Below w.heap.size w w' := by
 go_enter Tryz.func148, Tryz.ntmps148
 go_wp2_with fail
 refine (aK a b c d _).mono ?_
 rintro e w1 ⟨rfl, hx⟩
 have va : aC w1 w.heap.size a b c d := (((aM w a b c d _).alloc _).alloc _).kept (by simp; omega) hx
 have vv : aF w1 (w.heap.size + 1) x y z := ((by simpa using aD (w.alloc _) x y z _ : aF _ (w.heap.size + 1) x y z).alloc (by simp) _).kept (by simp) hx
 have vr : aF w1 (w.heap.size + 1 + 1) 0 0 0 := (by simpa using aD ((w.alloc _).alloc _) 0 0 0 _ : aF _ (w.heap.size + 1 + 1) 0 0 0).kept (by simp) hx
 have fr : dR w1 (w.heap.size + 1 + 1) := (by simpa using fu ((w.alloc _).alloc _) 0 0 0 _ : dR _ (w.heap.size + 1 + 1)).kept (by simp) hx
 have hs : w.heap.size + 2 < w1.heap.size := by have := hx.size; simp at this; omega
 have hB : Below w.heap.size w w1 := ak (dQ _ _ _ _) hx
 clear hx
 cases h1 : az a b c d
 ·have HR := yz (qm (a := a) (b := b) (c := c) (d := d) (x := x) (y := y) (z := z) (by rw [apR, h1]; rfl))
  obtain ⟨cr0, cr1, cr2⟩ := vr
  obtain ⟨fr0, fr1, fr2⟩ := fr
  go_wp2_with fail
  exact bodyPost_ret (v := .agg #[.int .i64 0, .int .i64 0, .int .i64 0]) (by simp [results, Tryz.results148, go_sem, cr0, cr1, cr2]) rfl ⟨by rw [yy HR], bl hB (by omega) _ _ _⟩
 ·have wa := va
  have wv := vv
  obtain ⟨ca0, ca1, ca2, ca3⟩ := wa
  obtain ⟨cv0, cv1, cv2⟩ := wv
  go_wp2_with fail
  clear ca0 ca1 ca2 ca3 cv0 cv1 cv2
  refine (ft x y z _).mono ?_
  rintro e w2 ⟨rfl, hx⟩
  replace va := va.kept (by omega) hx
  replace vv := vv.kept (by omega) hx
  replace vr := vr.kept (by omega) hx
  replace fr := fr.kept (by omega) hx
  replace hB := ak hB hx
  replace hs : w.heap.size + 2 < w2.heap.size := by have := hx.size; omega
  clear hx
  cases h2 : cc x y z
  ·have HR := yz (qm (a := a) (b := b) (c := c) (d := d) (x := x) (y := y) (z := z) (by rw [apR, h1, h2]; rfl))
   obtain ⟨cr0, cr1, cr2⟩ := vr
   obtain ⟨fr0, fr1, fr2⟩ := fr
   go_wp2_with fail
   exact bodyPost_ret (v := .agg #[.int .i64 0, .int .i64 0, .int .i64 0]) (by simp [results, Tryz.results148, go_sem, cr0, cr1, cr2]) rfl ⟨by rw [yy HR], bl hB (by omega) _ _ _⟩
  ·have wa := va
   have wv := vv
   obtain ⟨ca0, ca1, ca2, ca3⟩ := wa
   obtain ⟨cv0, cv1, cv2⟩ := wv
   have HR := yz (uR (a := a) (b := b) (c := c) (d := d) (x := x) (y := y) (z := z) (by rw [apR, h1, h2]; rfl))
   have HX := yz (wj (bU.1 h1).1 (na h2))
   have HY := yz (wo (bU.1 h1).1 (na h2))
   have HZ := yz (wq (bU.1 h1).1 (na h2))
   obtain ⟨cr0, cr1, cr2⟩ := vr
   obtain ⟨fr0, fr1, fr2⟩ := fr
   clear va vv h1 h2
   go_wp2
   go_quiet (fail)
   go_wp2
   go_quiet (fail)
   go_wp2
   go_quiet (fail)
   go_wp2
   rw [yy HX, yy HY, yy HZ]
   exact bodyPost_ret (v := .agg #[.int .i64 (apX a b c d x y z), .int .i64 (apY a b c d x y z), .int .i64 (apZ a b c d x y z)]) (by simp [results, Tryz.results148, go_sem, cr0, cr1, cr2]) rfl ⟨by rw [yy HR], bl (ak hB (bC _ _)) (by omega) _ _ _⟩
def lH (x y z cone : Int) : Bool := decide (0 < z) && decide (wrap64 (wrap64 (cone * cone) * el x y z x y z) ≤ wrap64 (wrap64 (10000 * z) * z))
def tR (s : St) (a b c d cone : Int) : Bool := lH (apX a b c d s.2.1 s.2.2.1 s.2.2.2) (apY a b c d s.2.1 s.2.2.1 s.2.2.2) (apZ a b c d s.2.1 s.2.2.1 s.2.2.2) cone
def bR (L : List St) (a b c d cone : Int) : Nat → List Int
 | 0 => []
 | k + 1 => if tR (stA L k) a b c d cone = true then bR L a b c d cone k ++ [(stA L k).1] else bR L a b c d cone k
def dm (L : List St) (a b c d cone : Int) : List Int := if (be L && az a b c d && (decide (0 ≤ cone) && decide (cone ≤ 100))) = true then bR L a b c d cone L.length else []
theorem kI (L : List St) (a b c d cone : Int) (k : Nat) : (bR L a b c d cone k).length ≤ k := by
 induction k with
 | zero => exact Nat.le_refl _
 | succ k ih =>
  unfold bR
  split
  ·simp; exact ih
  ·omega
abbrev pm (xs : List Int) : List Value := xs.map (Value.int .i64)
theorem si : (Tryz.prog.info? 2).map (fun i => (i.zero, i.size, i.bytes)) = some (some (.int .i64 0), 1, 8) := by kernel_rfl
theorem World.ownsRow_weak {w : World} {B : Nat} {t : TypeId} {v : Value} {n m : Nat} {xs : List Value} (h : w.ownsRow (B + 1) t m v n xs) : w.ownsRow B t m v n xs := by
 obtain ⟨h1, h2⟩ := h
 refine ⟨h1, ?_⟩
 rcases h2 with h2 | ⟨g, cap, cur, e, hb, r⟩
 ·exact .inl h2
 ·exact .inr ⟨g, cap, cur, e, by omega, r⟩
theorem tW {B : Nat} {w w1 w2 : World} {v : Value} {t : TypeId} {n m : Nat} {xs : List Value} (h : Below B w w1) (hB : B ≤ w1.heap.size) (ho : w1.ownsRow B t m v n xs) (hg : w1.grownBy w2 v.ownBlock) : Below B w w2 :=
 h.trans ⟨hg.os, hg.tape, hg.output, hg.size, fun k hk => hg.block k (by omega) (fun e => by have := (ho.lt k e.symm).1; omega)⟩
theorem pP (x y z cone : Int) (w : World) :
  Calls Tryz.prog 166 #[.agg #[.int .i64 x, .int .i64 y, .int .i64 z], .int .i64 cone] w fun e w' => e = .returned (.bool (lH x y z cone)) ∧ Below w.heap.size w w' := by
 have cQ := yz (fun W => gA x y z W)
 have HC : Hid (lH x y z cone = (decide (0 < z) && decide (wrap64 (wrap64 (cone * cone) * el x y z x y z) ≤ wrap64 (wrap64 (10000 * z) * z)))) := yz rfl
 generalize el x y z x y z = dd at cQ HC
 obtain ⟨m1, hm1⟩ : ∃ m, wrap64 (10000 * z) = m := ⟨_, rfl⟩
 obtain ⟨m2, hm2⟩ : ∃ m, wrap64 (m1 * z) = m := ⟨_, rfl⟩
 obtain ⟨m3, hm3⟩ : ∃ m, wrap64 (cone * cone) = m := ⟨_, rfl⟩
 obtain ⟨m4, hm4⟩ : ∃ m, wrap64 (m3 * dd) = m := ⟨_, rfl⟩
 rw [hm1, hm2, hm3, hm4] at HC
 have hB := an w (.cells #[.int .i64 x, .int .i64 y, .int .i64 z] 72)
 have hV := aD w x y z 72
 go_enter Tryz.func166, Tryz.ntmps166
 go_wp2_with fail
 generalize w.alloc (.cells #[.int .i64 x, .int .i64 y, .int .i64 z] 72) = W at hB hV ⊢
 have HB := yz hB
 obtain ⟨v0, v1, v2⟩ := hV
 have r0 := cell_regrown v0
 have r1 := cell_regrown v1
 have r2 := cell_regrown v2
 clear hB v0 v1 v2
 by_cases hz : 0 < z
 ·have HC2 : Hid (lH x y z cone = decide (m4 ≤ m2)) := yz (by rw [yy HC]; simp [hz])
  clear HC
  refine wp_region_quiet_below (by kernel_rfl) (by kernel_rfl) ?_
  repeat (go_big_quiet_step (first | (with_reducible exact Calls.regrown_of (yy cQ _))))
  refine wpQuiet_nil ?_
  intro _ hw'
  obtain ⟨⟨dq, osq⟩, hw''⟩ := hw'
  subst hw''
  have hx := ak (yy HB) (below_regrown W dq osq)
  go_wp2_with fail
  go_ret
  exact ⟨by rw [yy HC2]; rfl, hx⟩
 ·have hz' : decide (0 < z) = false := by simpa using hz
  have HC2 : Hid (lH x y z cone = false) := yz (by rw [yy HC, hz']; rfl)
  clear HC
  refine wp_region_quiet_below (by kernel_rfl) (by kernel_rfl) ?_
  repeat (go_big_quiet_step (first | (with_reducible exact Calls.regrown_of (yy cQ _))))
  refine wpQuiet_nil ?_
  intro _ hw'
  obtain ⟨⟨dq, osq⟩, hw''⟩ := hw'
  subst hw''
  have hx := ak (yy HB) (below_regrown W dq osq)
  go_wp2_with fail
  go_ret
  exact ⟨by rw [yy HC2]; rfl, hx⟩
theorem Calls.regrown_same {P : Program} {f : FuncId} {args : Array Value} {w : World} {d : Nat} {os : Array Obj} {v : Value}
  (h : Calls P f args (grow (redrawn w d) os) fun e w' => e = .returned v ∧ w' = grow (redrawn w d) os) : Calls P f args (grow (redrawn w d) os) fun e w'' => e = .returned v ∧ ∃ p : Regrown, w'' = grow (redrawn w p.d) p.os :=
 h.mono fun _ _ ⟨he, hm⟩ => ⟨he, ⟨d, os⟩, hm⟩
theorem pt (a1 a2 a3 b1 b2 b3 c1 c2 c3 d1 d2 d3 : Int) (w : World) :
  Calls Tryz.prog 206 #[.agg #[.int .i64 a1, .int .i64 a2, .int .i64 a3], .agg #[.int .i64 b1, .int .i64 b2, .int .i64 b3], .agg #[.int .i64 c1, .int .i64 c2, .int .i64 c3], .agg #[.int .i64 d1, .int .i64 d2, .int .i64 d3]] w fun e w' => e = .returned (.int .i64 (oI a1 a2 a3 b1 b2 b3 c1 c2 c3 d1 d2 d3)) ∧ Below w.heap.size w w' := by
 go_enter Tryz.func206, Tryz.ntmps206
 go_wp2_with fail
 refine (ft a1 a2 a3 _).mono ?_
 rintro e w1 ⟨rfl, hB1⟩
 have hB : Below w.heap.size w w1 := ak (vz _ _ _ _ _) hB1
 have hs : w.heap.size + 4 ≤ w1.heap.size := by have := hB1.size; simpa [Nat.add_assoc] using this
 have va : aF w1 w.heap.size a1 a2 a3 := ((((by simpa using aD w a1 a2 a3 _ : aF _ w.heap.size a1 a2 a3).alloc (by simp <;> omega) _).alloc (by simp <;> omega) _).alloc (by simp <;> omega) _).kept (by simp <;> omega) hB1
 have vb : aF w1 (w.heap.size + 1) b1 b2 b3 := (((by simpa using aD (w.alloc _) b1 b2 b3 _ : aF _ (w.heap.size + 1) b1 b2 b3).alloc (by simp <;> omega) _).alloc (by simp <;> omega) _).kept (by simp <;> omega) hB1
 have vc : aF w1 (w.heap.size + 1 + 1) c1 c2 c3 := ((by simpa using aD ((w.alloc _).alloc _) c1 c2 c3 _ : aF _ (w.heap.size + 1 + 1) c1 c2 c3).alloc (by simp <;> omega) _).kept (by simp <;> omega) hB1
 have vd : aF w1 (w.heap.size + 1 + 1 + 1) d1 d2 d3 := (by simpa using aD (((w.alloc _).alloc _).alloc _) d1 d2 d3 _ : aF _ (w.heap.size + 1 + 1 + 1) d1 d2 d3).kept (by simp <;> omega) hB1
 clear hB1
 have hva := va
 obtain ⟨ca0, ca1, ca2⟩ := va
 have hvb := vb
 obtain ⟨cb0, cb1, cb2⟩ := vb
 have hvc := vc
 obtain ⟨cc0, cc1, cc2⟩ := vc
 have hvd := vd
 obtain ⟨cd0, cd1, cd2⟩ := vd
 cases ha : cc a1 a2 a3
 ·go_wp2_with fail
  go_ret
  exact ⟨by simp [oI, ha], hB⟩
 ·go_wp2_with fail
  refine (ft b1 b2 b3 _).mono ?_
  rintro e w2 ⟨rfl, hB2⟩
  have va := hva.kept (by omega) hB2
  have vb := hvb.kept (by omega) hB2
  have vc := hvc.kept (by omega) hB2
  have vd := hvd.kept (by omega) hB2
  replace hs : w.heap.size + 4 ≤ w2.heap.size := by have := hB2.size; omega
  replace hB : Below w.heap.size w w2 := ak hB hB2
  clear hva ca0 ca1 ca2 hvb cb0 cb1 cb2 hvc cc0 cc1 cc2 hvd cd0 cd1 cd2
  clear hB2
  have hva := va
  obtain ⟨ca0, ca1, ca2⟩ := va
  have hvb := vb
  obtain ⟨cb0, cb1, cb2⟩ := vb
  have hvc := vc
  obtain ⟨cc0, cc1, cc2⟩ := vc
  have hvd := vd
  obtain ⟨cd0, cd1, cd2⟩ := vd
  cases hb : cc b1 b2 b3
  ·go_wp2_with fail
   go_ret
   exact ⟨by simp [oI, hb], hB⟩
  ·go_wp2_with fail
   refine (cx c1 c2 c3 _).mono ?_
   rintro e w3 ⟨rfl, hB3⟩
   have va := hva.kept (by omega) hB3
   have vb := hvb.kept (by omega) hB3
   have vc := hvc.kept (by omega) hB3
   have vd := hvd.kept (by omega) hB3
   replace hs : w.heap.size + 4 ≤ w3.heap.size := by have := hB3.size; omega
   replace hB : Below w.heap.size w w3 := ak hB hB3
   clear hva ca0 ca1 ca2 hvb cb0 cb1 cb2 hvc cc0 cc1 cc2 hvd cd0 cd1 cd2
   clear hB3
   have hva := va
   obtain ⟨ca0, ca1, ca2⟩ := va
   have hvb := vb
   obtain ⟨cb0, cb1, cb2⟩ := vb
   have hvc := vc
   obtain ⟨cc0, cc1, cc2⟩ := vc
   have hvd := vd
   obtain ⟨cd0, cd1, cd2⟩ := vd
   cases hc : ba c1 c2 c3
   ·go_wp2_with fail
    go_ret
    exact ⟨by simp [oI, hc], hB⟩
   ·go_wp2_with fail
    refine (cx d1 d2 d3 _).mono ?_
    rintro e w4 ⟨rfl, hB4⟩
    have va := hva.kept (by omega) hB4
    have vb := hvb.kept (by omega) hB4
    have vc := hvc.kept (by omega) hB4
    have vd := hvd.kept (by omega) hB4
    replace hs : w.heap.size + 4 ≤ w4.heap.size := by have := hB4.size; omega
    replace hB : Below w.heap.size w w4 := ak hB hB4
    clear hva ca0 ca1 ca2 hvb cb0 cb1 cb2 hvc cc0 cc1 cc2 hvd cd0 cd1 cd2
    clear hB4
    have hva := va
    obtain ⟨ca0, ca1, ca2⟩ := va
    have hvb := vb
    obtain ⟨cb0, cb1, cb2⟩ := vb
    have hvc := vc
    obtain ⟨cc0, cc1, cc2⟩ := vc
    have hvd := vd
    obtain ⟨cd0, cd1, cd2⟩ := vd
    cases hd : ba d1 d2 d3
    ·go_wp2_with fail
     go_ret
     exact ⟨by simp [oI, hd], hB⟩
    ·go_wp2_with fail
     have HD := yz (vR ha hb hc hd)
     have ka0 := cell_regrown ca0
     have ka1 := cell_regrown ca1
     have ka2 := cell_regrown ca2
     have kb0 := cell_regrown cb0
     have kb1 := cell_regrown cb1
     have kb2 := cell_regrown cb2
     have kc0 := cell_regrown cc0
     have kc1 := cell_regrown cc1
     have kc2 := cell_regrown cc2
     have kd0 := cell_regrown cd0
     have kd1 := cell_regrown cd1
     have kd2 := cell_regrown cd2
     refine wp_region_quiet_below (by kernel_rfl) (by kernel_rfl) ?_
     repeat (quiet_step (first | exact Calls.regrown_of (mD _ _ _ _ _ _ _) | exact Calls.regrown_same (ki _ _) | exact Calls.regrown_of (ju _ _ _ _ _ _ _)))
     refine wpQuiet_nil ?_
     intro _ hw'
     obtain ⟨⟨dq, osq⟩, hw''⟩ := hw'
     subst hw''
     have hb' := below_regrown w4 dq osq
     replace hB := ak hB hb'
     have va := hva.kept (by omega) hb'
     have vb := hvb.kept (by omega) hb'
     have vc := hvc.kept (by omega) hb'
     have vd := hvd.kept (by omega) hb'
     clear ca0 ka0 ca1 ka1 ca2 ka2 cb0 kb0 cb1 kb1 cb2 kb2 cc0 kc0 cc1 kc1 cc2 kc2 cd0 kd0 cd1 kd1 cd2 kd2
     generalize grow (redrawn w4 dq) osq = w5 at hB hb' va vb vc vd ⊢
     obtain ⟨ca0, ca1, ca2⟩ := va
     obtain ⟨cb0, cb1, cb2⟩ := vb
     obtain ⟨cc0, cc1, cc2⟩ := vc
     obtain ⟨cd0, cd1, cd2⟩ := vd
     clear hb' hva hvb hvc hvd
     go_wp2_with fail
     have ka0 := cell_regrown ca0
     have ka1 := cell_regrown ca1
     have ka2 := cell_regrown ca2
     have kb0 := cell_regrown cb0
     have kb1 := cell_regrown cb1
     have kb2 := cell_regrown cb2
     have kc0 := cell_regrown cc0
     have kc1 := cell_regrown cc1
     have kc2 := cell_regrown cc2
     have kd0 := cell_regrown cd0
     have kd1 := cell_regrown cd1
     have kd2 := cell_regrown cd2
     refine wp_region_quiet_below (by kernel_rfl) (by kernel_rfl) ?_
     repeat (quiet_step (first | exact Calls.regrown_of (mD _ _ _ _ _ _ _) | exact Calls.regrown_same (ki _ _) | exact Calls.regrown_of (ju _ _ _ _ _ _ _)))
     refine wpQuiet_nil ?_
     intro _ hw'
     obtain ⟨⟨dq, osq⟩, hw''⟩ := hw'
     subst hw''
     replace hB := ak hB (below_regrown w5 dq osq)
     clear ca0 ka0 ca1 ka1 ca2 ka2 cb0 kb0 cb1 kb1 cb2 kb2 cc0 kc0 cc1 kc1 cc2 kc2 cd0 kd0 cd1 kd1 cd2 kd2
     go_wp2_with fail
     refine (jd _ _ _).mono ?_
     rintro e w7 ⟨rfl, rfl⟩
     go_wp2_with fail
     go_ret
     exact ⟨by rw [yy HD]; rfl, hB⟩
theorem aF.in {w : World} {b : Nat} {x y z : Int} (h : aF w b x y z) : b < w.heap.size := World.block_lt_of_cell? w _ h.1
abbrev V3 := Int × Int × Int
def pU (w : World) (b : Nat) (x y : Int) : Prop := w.cell? ⟨b, 0, none⟩ = some (.int .i64 x) ∧ w.cell? ⟨b, 1, none⟩ = some (.int .i64 y)
theorem pU.kept {w w' : World} {b : Nat} {x y : Int} (h : pU w b x y) (hB : Below w.heap.size w w') : pU w' b x y := by
 have hb := World.block_lt_of_cell? w _ h.1
 exact ⟨by rw [hB.cell (p := ⟨b, 0, none⟩) hb]; exact h.1, by rw [hB.cell (p := ⟨b, 1, none⟩) hb]; exact h.2⟩
abbrev P2 := Int × Int
abbrev Sp := P2 × V3 × V3
def pA (w : World) (b : Nat) (x y a1 a2 a3 b1 b2 b3 : Int) : Prop := w.cell? ⟨b, 0, none⟩ = some (.int .i64 x) ∧ w.cell? ⟨b, 1, none⟩ = some (.int .i64 y) ∧ w.cell? ⟨b, 2, none⟩ = some (.int .i64 a1) ∧ w.cell? ⟨b, 3, none⟩ = some (.int .i64 a2) ∧ w.cell? ⟨b, 4, none⟩ = some (.int .i64 a3) ∧ w.cell? ⟨b, 5, none⟩ = some (.int .i64 b1) ∧ w.cell? ⟨b, 6, none⟩ = some (.int .i64 b2) ∧ w.cell? ⟨b, 7, none⟩ = some (.int .i64 b3)
theorem pA.kept {w w' : World} {b : Nat} {x y a1 a2 a3 b1 b2 b3 : Int} (h : pA w b x y a1 a2 a3 b1 b2 b3) (hB : Below w.heap.size w w') : pA w' b x y a1 a2 a3 b1 b2 b3 := by
 have hb := World.block_lt_of_cell? w _ h.1
 obtain ⟨h0, h1, h2, h3, h4, h5, h6, h7⟩ := h
 exact ⟨by rw [hB.cell (p := ⟨b, 0, none⟩) hb]; exact h0, by rw [hB.cell (p := ⟨b, 1, none⟩) hb]; exact h1, by rw [hB.cell (p := ⟨b, 2, none⟩) hb]; exact h2, by rw [hB.cell (p := ⟨b, 3, none⟩) hb]; exact h3, by rw [hB.cell (p := ⟨b, 4, none⟩) hb]; exact h4, by rw [hB.cell (p := ⟨b, 5, none⟩) hb]; exact h5, by rw [hB.cell (p := ⟨b, 6, none⟩) hb]; exact h6, by rw [hB.cell (p := ⟨b, 7, none⟩) hb]; exact h7⟩
def sK (w : World) (b o : Nat) (s : Sp) : Prop := w.cell? ⟨b, o, none⟩ = some (.int .i64 s.1.1) ∧ w.cell? ⟨b, o + 1, none⟩ = some (.int .i64 s.1.2) ∧ w.cell? ⟨b, o + 2, none⟩ = some (.int .i64 s.2.1.1) ∧ w.cell? ⟨b, o + 3, none⟩ = some (.int .i64 s.2.1.2.1) ∧ w.cell? ⟨b, o + 4, none⟩ = some (.int .i64 s.2.1.2.2) ∧ w.cell? ⟨b, o + 5, none⟩ = some (.int .i64 s.2.2.1) ∧ w.cell? ⟨b, o + 6, none⟩ = some (.int .i64 s.2.2.2.1) ∧ w.cell? ⟨b, o + 7, none⟩ = some (.int .i64 s.2.2.2.2)
theorem sK.kept {w w' : World} {b o : Nat} {s : Sp} (h : sK w b o s) (hB : Below w.heap.size w w') : sK w' b o s := by
 have hb : b < w.heap.size := World.block_lt_of_cell? w _ h.1
 obtain ⟨h0, h1, h2, h3, h4, h5, h6, h7⟩ := h
 exact ⟨by rw [hB.cell (p := ⟨b, o, none⟩) hb]; exact h0, by rw [hB.cell (p := ⟨b, o + 1, none⟩) hb]; exact h1, by rw [hB.cell (p := ⟨b, o + 2, none⟩) hb]; exact h2, by rw [hB.cell (p := ⟨b, o + 3, none⟩) hb]; exact h3, by rw [hB.cell (p := ⟨b, o + 4, none⟩) hb]; exact h4, by rw [hB.cell (p := ⟨b, o + 5, none⟩) hb]; exact h5, by rw [hB.cell (p := ⟨b, o + 6, none⟩) hb]; exact h6, by rw [hB.cell (p := ⟨b, o + 7, none⟩) hb]; exact h7⟩
theorem ws {L : List St} {i : Nat} (h : fl L i = true) (hi : 0 < i) : (stA L (i - 1)).1 < (stA L i).1 := by
 unfold fl upB at h
 simp only [Bool.and_eq_true, Bool.or_eq_true, decide_eq_true_eq] at h
 omega
theorem nv {L : List St} (h : be L = true) : ∀ i, i < L.length → ∀ j, j < i → (stA L j).1 < (stA L i).1
 | 0, _, j, hj => absurd hj (Nat.not_lt_zero _)
 | i + 1, hi, j, hj => by
  have hu := ws ((dg h).2 (i + 1) hi) (by omega)
  rw [Nat.add_sub_cancel] at hu
  by_cases e : j = i
  ·subst e; exact hu
  ·have := nv h i (by omega) j (by omega)
   omega
theorem oP {L : List St} (h : be L = true) {i : Nat} (hi : i < L.length) : atV L L.length (stA L i).1 = (stA L i).2 :=
 sr hi (fun j hj e => by have := nv h i hi j hj; omega) rfl
end
section
open Go.RowKit
def apV (L : List St) (a b c d id : Int) : D3 := apD a b c d (atV L L.length id)
def eW (L : List St) (a b c d id : Int) : D3 :=
 (prI (aw (apV L a b c d id).1 (apV L a b c d id).2.1 (apV L a b c d id).2.2) (gI (apV L a b c d id).1 (apV L a b c d id).2.1 (apV L a b c d id).2.2) (apV L a b c d id).1, prI (aw (apV L a b c d id).1 (apV L a b c d id).2.1 (apV L a b c d id).2.2) (gI (apV L a b c d id).1 (apV L a b c d id).2.1 (apV L a b c d id).2.2) (apV L a b c d id).2.1, prI (aw (apV L a b c d id).1 (apV L a b c d id).2.1 (apV L a b c d id).2.2) (gI (apV L a b c d id).1 (apV L a b c d id).2.1 (apV L a b c d id).2.2) (apV L a b c d id).2.2)
def bc (L : List St) (a b c d cone : Int) : List D3 := ((dm L a b c d cone).take 6).map (eW L a b c d)
theorem gC (L : List St) (a b c d cone : Int) : (bc L a b c d cone).length ≤ 6 := by unfold bc; rw [List.length_map, List.length_take]; omega
theorem gE {L : List St} {a b c d cone id : Int} : ∀ {k : Nat}, id ∈ bR L a b c d cone k → ∃ i, i < k ∧ id = (stA L i).1
 | 0, h => by cases h
 | k + 1, h => by
  unfold bR at h
  split at h
  ·rcases List.mem_append.1 h with h | h
   ·obtain ⟨i, hi, e⟩ := gE h
    exact ⟨i, by omega, e⟩
   ·simp at h
    exact ⟨k, by omega, h⟩
  ·obtain ⟨i, hi, e⟩ := gE h
   exact ⟨i, by omega, e⟩
theorem sM {L : List St} {a b c d cone id : Int} (h : id ∈ dm L a b c d cone) : be L = true ∧ az a b c d = true ∧ ∃ i, i < L.length ∧ id = (stA L i).1 := by
 unfold dm at h
 split at h
 ·rename_i hc
  simp only [Bool.and_eq_true] at hc
  exact ⟨hc.1.1, hc.1.2, gE h⟩
 ·cases h
theorem uV {L : List St} (hk : be L = true) {i : Nat} (hi : i < L.length) : ba (atV L L.length (stA L i).1).1 (atV L L.length (stA L i).1).2.1 (atV L L.length (stA L i).1).2.2 = true := by
 rw [oP hk hi]
 exact gW ((dg hk).2 i hi)
theorem pc (L : List St) (a b c d cone : Int) : (dm L a b c d cone).length ≤ 12 := by
 unfold dm
 split
 ·rename_i h
  have := kI L a b c d cone L.length
  simp only [Bool.and_eq_true] at h
  have := (dg h.1.1).1
  omega
 ·simp
theorem qF (l : List UInt8) (x : UInt8) : jA (l ++ [x]) = 10 * jA l + ((x.toNat : Int) - 48) := by unfold jA; rw [List.foldl_append]; rfl
def dgs (s : ByteArray) (k : Nat) : Bool := (s.data.toList.take k).all nZ
def vls (s : ByteArray) (k : Nat) : Int := jA (s.data.toList.take k)
theorem qw (s : ByteArray) (k : Nat) (h : k < s.size) : s.data.toList.take (k + 1) = s.data.toList.take k ++ [s[k]] := by
 have hl : k < s.data.toList.length := by simpa using h
 have e2 : s.data.toList[k] = s[k] := by
  have e1 : s.data.toList[k]? = some s[k] := by
   rw [Array.getElem?_toList]
   exact Array.getElem?_eq_getElem h
  rw [List.getElem?_eq_getElem hl] at e1
  exact Option.some.inj e1
 rw [List.take_succ_eq_append_getElem hl, e2]
theorem kn (s : ByteArray) (k : Nat) (h : k < s.size) : dgs s (k + 1) = (dgs s k && nZ s[k]) := by unfold dgs; rw [qw s k h, List.all_append]; simp
theorem oG (s : ByteArray) (k : Nat) (h : k < s.size) : vls s (k + 1) = 10 * vls s k + ((s[k].toNat : Int) - 48) := by unfold vls; rw [qw s k h, qF]
theorem qq (x : UInt8) : nZ x = true ↔ 48 ≤ x.toNat ∧ x.toNat ≤ 57 := by unfold nZ; simp
theorem lF (s : ByteArray) : ∀ k, k ≤ s.size → dgs s k = true → 0 ≤ vls s k ∧ vls s k < 10 ^ k
 | 0, _, _ => by unfold vls jA; simp
 | k + 1, hk, h => by
  rw [kn s k (by omega), Bool.and_eq_true] at h
  have ih := lF s k (by omega) h.1
  have := (qq _).1 h.2
  rw [oG s k (by omega), Int.pow_succ]
  omega
theorem ti {s : ByteArray} {k : Nat} (hk : k ≤ s.size) (h9 : s.size ≤ 9) (h : dgs s k = true) : 0 ≤ vls s k ∧ vls s k ≤ 999999999 := by
 have b := lF s k hk h
 have : (10 : Int) ^ k ≤ 10 ^ 9 := by
  have := Nat.pow_le_pow_right (n := 10) (by omega) (show k ≤ 9 by omega)
  exact_mod_cast this
 have e : (10 : Int) ^ 9 = 1000000000 := by decide
 omega
theorem vH (s : ByteArray) {k : Nat} (hk : k < s.size) (h : nZ s[k] = false) : dgs s s.size = false := by
 have : ∀ n, k < n → n ≤ s.size → dgs s n = false := by
  intro n
  induction n with
  | zero => intro h1; omega
  | succ n ih =>
   intro h1 h2
   rw [kn s n (by omega)]
   by_cases e : k = n
   ·subst e; rw [h]; simp
   ·rw [ih (by omega) (by omega)]; rfl
 exact this s.size hk (Nat.le_refl _)
theorem cV (s : ByteArray) : s.data.toList.length = s.size := by simp
theorem uQ (s : ByteArray) : dgs s s.size = s.data.toList.all nZ := by unfold dgs; rw [List.take_of_length_le (by rw [cV]; exact Nat.le_refl _)]
theorem up (s : ByteArray) : vls s s.size = jA s.data.toList := by unfold vls; rw [List.take_of_length_le (by rw [cV]; exact Nat.le_refl _)]
theorem vf (s : ByteArray) (h : 0 < s.size) : s.data.toList.head? = some s[0] := by
 rw [List.head?_eq_getElem?, Array.getElem?_toList]
 exact Array.getElem?_eq_getElem h
def fq (s : ByteArray) : Bool := decide (1 ≤ s.size ∧ s.size ≤ 9) && !(decide (1 < s.size) && decide (s.data.toList.head? = some 48))
theorem il (s : ByteArray) : fN s.data.toList = (fq s && dgs s s.size) := by unfold fN fq; rw [uQ, cV]
theorem uJ {x : Nat} (h : 48 ≤ x) (h2 : x ≤ 57) : IntKind.u8.wrap ((x : Int) - 48) = (x : Int) - 48 := by
 obtain ⟨d, rfl⟩ : ∃ d, x = 48 + d := ⟨x - 48, by omega⟩
 have : d ≤ 9 := by omega
 have hc : d = 0 ∨ d = 1 ∨ d = 2 ∨ d = 3 ∨ d = 4 ∨ d = 5 ∨ d = 6 ∨ d = 7 ∨ d = 8 ∨ d = 9 := by omega
 rcases hc with rfl | rfl | rfl | rfl | rfl | rfl | rfl | rfl | rfl | rfl <;> decide
theorem mo (x : Nat) (w : World) :
  Calls Tryz.prog 140 #[.int .u8 (x : Int)] w fun e w' => e = .returned (.bool (decide (48 ≤ x ∧ x ≤ 57))) ∧ w' = w := by
 by_cases hl : 48 ≤ x
 ·have h1 : decide ((48 : Int) ≤ (x : Int)) = true := decide_eq_true (by omega)
  by_cases hr : x ≤ 57
  ·have h2 : decide ((x : Int) ≤ 57) = true := decide_eq_true (by omega)
   have HO : Hid (decide (48 ≤ x ∧ x ≤ 57) = true) := yz (decide_eq_true ⟨hl, hr⟩)
   go_enter Tryz.func140, Tryz.ntmps140
   go_wp2
   go_ret
   exact ⟨by rw [yy HO]; rfl, rfl⟩
  ·have h2 : decide ((x : Int) ≤ 57) = false := decide_eq_false (by omega)
   have HO : Hid (decide (48 ≤ x ∧ x ≤ 57) = false) := yz (decide_eq_false (by omega))
   go_enter Tryz.func140, Tryz.ntmps140
   go_wp2
   go_ret
   exact ⟨by rw [yy HO]; rfl, rfl⟩
 ·have h1 : decide ((48 : Int) ≤ (x : Int)) = false := decide_eq_false (by omega)
  have HO : Hid (decide (48 ≤ x ∧ x ≤ 57) = false) := yz (decide_eq_false (by omega))
  go_enter Tryz.func140, Tryz.ntmps140
  go_wp2
  go_ret
  exact ⟨by rw [yy HO]; rfl, rfl⟩
theorem uy {a b : ByteArray} (h : a ≠ b) : (a.toList == b.toList) = false := by
 rw [ByteArray.toList_eq, ByteArray.toList_eq]
 simp
 intro e
 exact h (ByteArray.ext e)
theorem mA {a : ByteArray} {l : List UInt8} (h : a ≠ ⟨l.toArray⟩) : (a.toList == l) = false := by
 rw [ByteArray.toList_eq]
 cases h2 : (a.data.toList == l) with
 | false => rfl
 | true => exact absurd (ByteArray.ext (by rw [← (show a.data.toList = l by simpa using h2)])) h
theorem qc {a : ByteArray} {l : List UInt8} (h : a = ⟨l.toArray⟩) : (a.toList == l) = true := by rw [ByteArray.toList_eq, h]; simp
theorem ss {s : ByteArray} (h1 : s.size = 1) (h : s[0]'(by omega) = 48) : s = ⟨#[48]⟩ := by
 apply ByteArray.ext
 apply Array.ext
 ·exact h1
 ·intro i hi1 hi2
  obtain rfl : i = 0 := by have : s.data.size = 1 := h1; omega
  exact h
theorem lm (s : ByteArray) (w : World) (hs : s.size ≤ 8000) :
  Calls Tryz.prog 115 #[.string s] w fun e w' => e = .returned (.tuple #[.int .i64 (if fN s.data.toList = true then jA s.data.toList else 0), .bool (fN s.data.toList)]) ∧ w' = w := by
 obtain ⟨R, hR⟩ : ∃ R : Int, (if fN s.data.toList = true then jA s.data.toList else 0) = R := ⟨_, rfl⟩
 obtain ⟨Q, hQ⟩ : ∃ Q : Bool, fN s.data.toList = Q := ⟨_, rfl⟩
 rw [hR, hQ]
 have HR := yz hR
 have HQ := yz hQ
 clear hR hQ
 have no : Hid (fN s.data.toList = false → R = 0 ∧ Q = false) := yz (fun h => ⟨by rw [← yy HR, h]; rfl, by rw [← yy HQ, h]⟩)
 by_cases h0 : s.size < 1
 ·have hd : decide ((s.size : Int) < 1) = true := decide_eq_true (by omega)
  have HO := yz (yy no (by rw [il]; unfold fq; rw [decide_eq_false (show ¬ (1 ≤ s.size ∧ s.size ≤ 9) by omega)]; rfl))
  go_enter Tryz.func115, Tryz.ntmps115
  go_wp2
  refine bodyPost_ret (v := .tuple #[.int .i64 0, .bool false]) (by simp [results, Tryz.results115, go_sem]) rfl ⟨by rw [(yy HO).1, (yy HO).2], rfl⟩
 have hd : decide ((s.size : Int) < 1) = false := decide_eq_false (by omega)
 by_cases h9 : 9 < s.size
 ·have hd9 : decide ((9 : Int) < (s.size : Int)) = true := decide_eq_true (by omega)
  have HO := yz (yy no (by rw [il]; unfold fq; rw [decide_eq_false (show ¬ (1 ≤ s.size ∧ s.size ≤ 9) by omega)]; rfl))
  go_enter Tryz.func115, Tryz.ntmps115
  go_wp2
  refine bodyPost_ret (v := .tuple #[.int .i64 0, .bool false]) (by simp [results, Tryz.results115, go_sem]) rfl ⟨by rw [(yy HO).1, (yy HO).2], rfl⟩
 have hd9 : decide ((9 : Int) < (s.size : Int)) = false := decide_eq_false (by omega)
 have hp : 0 < s.size := by omega
 have hhd := vf s hp
 have hrange : decide (1 ≤ s.size ∧ s.size ≤ 9) = true := decide_eq_true (by omega)
 by_cases hz : 1 < s.size ∧ s[0] = 48
 ·have hb : ((s[0].toNat : Int) == 48) = true := by rw [hz.2]; rfl
  have hne : (s.toList == [48]) = false := mA (l := [48]) (fun e => by have := congrArg ByteArray.size e; have h1 : (⟨#[48]⟩ : ByteArray).size = 1 := rfl; omega)
  have HO := yz (yy no (by rw [il]; unfold fq; rw [hrange, hhd, hz.2, decide_eq_true hz.1]; rfl))
  go_enter Tryz.func115, Tryz.ntmps115
  go_wp2
  refine bodyPost_ret (v := .tuple #[.int .i64 0, .bool false]) (by simp [results, Tryz.results115, go_sem]) rfl ⟨by rw [(yy HO).1, (yy HO).2], rfl⟩
 have HH : Hid (fq s = true) := yz (by
  unfold fq
  rw [hrange, hhd]
  by_cases h1 : 1 < s.size
  ·have : s[0] ≠ 48 := fun e => hz ⟨h1, e⟩
   rw [decide_eq_true h1, decide_eq_false (by simpa using this)]
   rfl
  ·rw [decide_eq_false h1]
   rfl)
 have key : ((s[0].toNat : Int) == 48) = false ∨ (((s[0].toNat : Int) == 48) = true ∧ (s.toList == [48]) = true) := by
  by_cases h1 : s[0] = 48
  ·exact .inr ⟨by rw [h1]; rfl, qc (l := [48]) (ss (by have : ¬ 1 < s.size := fun e => hz ⟨e, h1⟩; omega) h1)⟩
  ·have h2 : s[0].toNat ≠ 48 := fun e => h1 (UInt8.toNat.inj e)
   exact .inl (by simpa using (show (s[0].toNat : Int) ≠ 48 by omega))
 have HRR : Hid (R = (if dgs s s.size = true then vls s s.size else 0) ∧ Q = dgs s s.size) := yz (by rw [← yy HR, ← yy HQ, il, yy HH, Bool.true_and, up]; exact ⟨rfl, rfl⟩)
 have h9' : s.size ≤ 9 := by omega
 clear hz hrange hhd HR HH HQ no
 rcases key with hb | ⟨hb, hst⟩
 all_goals
  go_enter Tryz.func115, Tryz.ntmps115
  go_wp2_with fail
  go_loop [4, 25] (fun n i => ∃ (k : Nat) (v : Int), k ≤ s.size ∧ i = .int .i64 k ∧ n = .int .i64 v ∧ 0 ≤ v ∧ v ≤ 999999999 ∧ Hid (v = vls s k) ∧ Hid (dgs s k = true)) (fun _ i => s.size - (intOf i).toNat)
  case atStart => exact ⟨0, 0, by omega, rfl, rfl, by omega, by omega, yz rfl, yz rfl⟩
  case round =>
   obtain ⟨k, v, hk, rfl, rfl, hv0, hv9, HV, HD⟩ := hrel
   by_cases hkn : k < s.size
   ·have hkn2 : (k : Int) < (s.size : Int) := by omega
    have HS := yz (kn s k hkn)
    have HVS := yz (oG s k hkn)
    have HB := yz (fun h => ti (s := s) (k := k + 1) (by omega) h9' h)
    have hbt := s[k].toNat_lt
    obtain ⟨x, hx⟩ : ∃ x : Nat, s[k].toNat = x := ⟨_, rfl⟩
    have HI := yz (qq s[k])
    rw [hx] at HVS HI hbt
    have cD := yz (mo x w)
    by_cases hdg : 48 ≤ x ∧ x ≤ 57
    ·have hw := uJ (x := x) hdg.1 hdg.2
     have HD2 : Hid (dgs s (k + 1) = true) := yz (by rw [yy HS, yy HD, (yy HI).2 hdg]; rfl)
     have hbd := yy HB (yy HD2)
     rw [yy HVS, ← yy HV] at hbd
     have HV2 : Hid (10 * v + ((x : Int) - 48) = vls s (k + 1)) := yz (by rw [yy HVS, yy HV])
     rw [decide_eq_true hdg] at cD
     clear HS HVS HB HI hbt
     go_wp2_with fail
     refine (yy cD).mono ?_
     rintro e w2 ⟨rfl, hw2⟩
     subst hw2
     go_wp2
     go_round
     case rel => exact ⟨k + 1, 10 * v + ((x : Int) - 48), by omega, by go_num, by go_num, hbd.1, hbd.2, HV2, HD2⟩
     case measure => simp [intOf]; omega
    ·have HO : Hid (R = 0 ∧ Q = false) := yz (by
      have hf : dgs s s.size = false := vH s hkn (by cases hq : nZ s[k] with | false => rfl | true => exact absurd ((yy HI).1 hq) hdg)
      rw [(yy HRR).1, (yy HRR).2, hf]
      exact ⟨rfl, rfl⟩)
     rw [decide_eq_false hdg] at cD
     go_wp2_with fail
     refine (yy cD).mono ?_
     rintro e w2 ⟨rfl, hw2⟩
     subst hw2
     go_wp2
     refine bodyPost_ret (v := .tuple #[.int .i64 0, .bool false]) (by simp [results, Tryz.results115, go_sem]) rfl ⟨by rw [(yy HO).1, (yy HO).2], rfl⟩
   ·have hkn' : k = s.size := by omega
    subst hkn'
    go_wp2
    refine bodyPost_ret (v := .tuple #[.int .i64 v, .bool true]) (by simp [results, Tryz.results115, go_sem]) rfl ⟨by rw [(yy HRR).1, (yy HRR).2, yy HD, if_pos rfl, ← yy HV], rfl⟩
end
section
open Go.RowKit
def ey (n : Nat) : ByteArray := if n = 0 then ⟨#[48]⟩ else dG n
theorem oJ {n : Nat} (h : n ≠ 0) : ey n = dG n := by unfold ey; rw [if_neg h]
theorem qy : ∀ (k n : Nat), n < 10 ^ k → (dG n).size ≤ k
 | 0, n, h => by
  obtain rfl : n = 0 := by omega
  exact Nat.le_refl _
 | k + 1, n, h => by
  by_cases hn : n = 0
  ·subst hn; exact Nat.zero_le _
  ·rw [uS hn, ByteArray.size_append, vM]
   have := qy k (n / 10) (by rw [Nat.pow_succ] at h; omega)
   omega
theorem cu {n : Nat} (h : n ≤ 1000000000) : (ey n).size ≤ 10 := by
 by_cases hn : n = 0
 ·subst hn; decide
 ·rw [oJ hn]
  exact qy 10 n (by omega)
def ew (n : Nat) : ByteArray := ⟨#[101, 114, 114, 111, 114, 32]⟩ ++ ey n
end
section
open Go.RowKit Go.Sort
theorem mx {w w' : World} (h : Below w.heap.size w w') : w.grownBy w' none := ⟨h.os, h.tape, h.output, h.size, fun k hk _ => h.block k hk⟩
theorem ql {w w' : World} {B : Nat} {t : TypeId} {v : Value} {n m : Nat} {xs : List Value} (h : w.ownsRow B t m v n xs) (hB : Below w.heap.size w w') : w'.ownsRow B t m v n xs :=
 h.kept (mx hB) (by cases hv : v.ownBlock <;> simp)
theorem aC.grown {w w' : World} {b : Nat} {p q r s : Int} {row : Option Nat} (h : aC w b p q r s) (hg : w.grownBy w' row) (hne : some b ≠ row) : aC w' b p q r s := by
 obtain ⟨h0, h1, h2, h3⟩ := h
 exact ⟨hg.cell h0 hne, hg.cell h1 hne, hg.cell h2 hne, hg.cell h3 hne⟩
theorem pT {s : St} {a b c d : Int} (cone : Int) (ht : az a b c d = true) (hs : ba s.2.1 s.2.2.1 s.2.2.2 = true) :
  apR a b c d s.2.1 s.2.2.1 s.2.2.2 = true := by
 have hw : cc s.2.1 s.2.2.1 s.2.2.2 = true := by
  obtain ⟨h1, h2⟩ := lZ hs
  have := bu.1 h2
  unfold cc
  rw [h1]
  have h3 : aJ 1800 s.2.1 s.2.2.1 s.2.2.2 = true := bu.2 ⟨by omega, by omega, by omega⟩
  rw [h3]
  rfl
 unfold apR
 rw [ht, hw]
 rfl
theorem sZ (L : List St) (a b c d cone : Int) (ar : Option Addr) (cap : Nat) (p : Addr) (w : World) (hn : L.length ≤ 1048576) (hcap : L.length ≤ cap) (hc9 : cap ≤ 9223372036854775807) (hS : aL w ar L L.length) (hE : aW p w) :
  Calls Tryz.prog 145 #[.slice ar L.length cap, .agg #[.int .i64 a, .int .i64 b, .int .i64 c, .int .i64 d], .int .i64 cone] w fun e w' => ∃ v, e = .returned v ∧ w'.ownsRow (w.heap.size + 1) 2 1 v (dm L a b c d cone).length (pm (dm L a b c d cone)) ∧ Below w.heap.size w w' := by
 have cS := yz (fun (W : World) hW hE => bY L ar cap p W hn hcap hc9 hW hE)
 have HS := yz hS
 have HE := yz hE
 clear hS hE
 have HV := yz (show dm L a b c d cone = if (be L && az a b c d && (decide (0 ≤ cone) && decide (cone ≤ 100))) = true then bR L a b c d cone L.length else [] from rfl)
 have H12 : Hid (be L = true → L.length ≤ 12 ∧ oa L L.length) := yz (fun h => dg h)
 generalize L.length = n at *
 obtain ⟨i0, hi, hz0, hz1, hz2⟩ := info_parts si
 have HB := yz (an w (.cells #[.int .i64 a, .int .i64 b, .int .i64 c, .int .i64 d] 43))
 have HA := yz (aM w a b c d 43)
 go_enter Tryz.func145, Tryz.ntmps145
 go_wp2_with fail
 refine (yy cS _ ((yy HS).kept (yy HB)) ((yy HE).kept (yy HB))).mono ?_
 rintro e w1 ⟨rfl, hx⟩
 have HB1 := yz (ak (yy HB) hx)
 have HA1 := yz ((yy HA).kept (by simp) hx)
 clear hx HB HA
 cases hk : be L
 ·rw [hk] at HV
  clear hk
  go_wp2_with fail
  go_ret
  exact ⟨_, rfl, by rw [yy HV]; exact World.ownsRow_nil _ _ _ _, yy HB1⟩
 obtain ⟨h12, hok⟩ := yy H12 hk
 have HO := yz hok
 rw [hk] at HV
 clear hk hok
 have va := yy HA1
 obtain ⟨c0, c1, c2, c3⟩ := va
 go_wp2_with fail
 refine (aK a b c d _).mono ?_
 rintro e w2 ⟨rfl, hx⟩
 have HB2 := yz (ak (yy HB1) hx)
 have HA2 := yz ((yy HA1).kept (yy HA1).lt hx)
 clear hx HB1 HA1 c0 c1 c2 c3
 cases hr : az a b c d
 ·rw [hr] at HV
  clear hr
  go_wp2_with fail
  go_ret
  exact ⟨_, rfl, by rw [yy HV]; exact World.ownsRow_nil _ _ _ _, yy HB2⟩
 rw [hr] at HV
 by_cases hc0 : cone < 0
 ·have hd : decide (0 ≤ cone) = false := by simp; omega
  rw [hd] at HV
  clear hd hr
  go_wp2_with fail
  go_ret
  exact ⟨_, rfl, by rw [yy HV]; exact World.ownsRow_nil _ _ _ _, yy HB2⟩
 by_cases hc1 : 100 < cone
 ·have hd : decide (cone ≤ 100) = false := by simp; omega
  rw [hd, Bool.and_false] at HV
  have hc0' : decide (cone < 0) = false := by simpa using hc0
  clear hd hr
  go_wp2_with fail
  go_ret
  exact ⟨_, rfl, by rw [yy HV]; exact World.ownsRow_nil _ _ _ _, yy HB2⟩
 have hd0 : decide (0 ≤ cone) = true := by simp; omega
 have hd1 : decide (cone ≤ 100) = true := by simp; omega
 rw [hd0, hd1] at HV
 have HV' : Hid (dm L a b c d cone = bR L a b c d cone n) := yz (by rw [yy HV]; rfl)
 have HR := yz hr
 have hc0' : decide (cone < 0) = false := by simpa using hc0
 clear HV hd0 hd1 hr
 rcases yy HS with rfl | ⟨b0, o, rfl, hb, hc⟩
 ·go_wp2_with fail
  refine wp_loop_rounds 1 ?_
  rw [rounds_succ]
  go_wp2_with fail
  go_ret
  exact ⟨_, rfl, by rw [yy HV']; exact World.ownsRow_nil _ _ _ _, yy HB2⟩
 have HC := yz hc
 clear hc
 go_wp2_with fail
 clear hc0' hc0 hc1
 go_loopw [7, 28] (fun v i wr => ∃ k : Nat, k ≤ n ∧ i = .int .i64 k ∧ Hid (wr.ownsRow (w.heap.size + 1) 2 1 v (bR L a b c d cone k).length (pm (bR L a b c d cone k))) ∧ Hid (Below w.heap.size w wr) ∧ Hid (aC wr w.heap.size a b c d)) (fun _ i _ => n - (intOf i).toNat)
 case atStart => exact ⟨0, by omega, rfl, yz (World.ownsRow_nil _ _ _ _), HB2, HA2⟩
 case round =>
  clear HB2 HA2
  obtain ⟨k, hk, rfl, HW, HB, HA⟩ := hrel
  by_cases hkn : k < n
  ·obtain ⟨⟨s1, s2, s3, s4⟩, hs⟩ : ∃ s, stA L k = s := ⟨_, rfl⟩
   have hst := ((yy HC) k hkn).kept hb (yy HB)
   have hsm := gW ((yy HO) k hkn)
   rw [hs] at hst hsm
   obtain ⟨c0, c1, c2, c3⟩ := hst
   have hap : apR a b c d s2 s3 s4 = true := pT (s := (s1, s2, s3, s4)) cone (yy HR) hsm
   have cA : Hid (∀ W : World, Calls Tryz.prog 148 #[.agg #[.int .i64 a, .int .i64 b, .int .i64 c, .int .i64 d], .agg #[.int .i64 s2, .int .i64 s3, .int .i64 s4]] W fun e w' => e = .returned (.agg #[.int .i64 (apX a b c d s2 s3 s4), .int .i64 (apY a b c d s2 s3 s4), .int .i64 (apZ a b c d s2 s3 s4)]) ∧ Below W.heap.size W w') := yz (fun W => (lE a b c d s2 s3 s4 W).mono fun e w' h => ⟨by rw [h.1, hap]; rfl, h.2⟩)
   have HQ : Hid (tR (stA L k) a b c d cone = lH (apX a b c d s2 s3 s4) (apY a b c d s2 s3 s4) (apZ a b c d s2 s3 s4) cone) := yz (by rw [hs]; rfl)
   have HT := yz hs
   generalize apX a b c d s2 s3 s4 = x at cA HQ
   generalize apY a b c d s2 s3 s4 = y at cA HQ
   generalize apZ a b c d s2 s3 s4 = z at cA HQ
   clear hs hsm hap
   have B1 := yz ((yy HB).alloc (yy HB).size (.cells #[.int .i64 s1, .int .i64 s2, .int .i64 s3, .int .i64 s4] 74))
   have A1 := yz ((yy HA).alloc (.cells #[.int .i64 s1, .int .i64 s2, .int .i64 s3, .int .i64 s4] 74))
   have N1 := yz (cq wr (s1, s2, s3, s4) 74)
   have W1 := yz ((yy HW).alloc (.cells #[.int .i64 s1, .int .i64 s2, .int .i64 s3, .int .i64 s4] 74))
   obtain ⟨d0, d1, d2, d3⟩ := yy A1
   go_wp2_with fail
   clear c0 c1 c2 c3 d0 d1 d2 d3 HW HB HA
   generalize wr.alloc (.cells #[.int .i64 s1, .int .i64 s2, .int .i64 s3, .int .i64 s4] 74) = V1 at B1 A1 N1 W1 ⊢
   generalize wr.heap.size = bs at N1 ⊢
   refine (yy cA _).mono ?_
   rintro e V2 ⟨rfl, hx⟩
   have B2 := yz (ak (yy B1) hx)
   have A2 := yz ((yy A1).kept (yy A1).lt hx)
   have N2 := yz ((yy N1).kept (World.block_lt_of_cell? _ _ (yy N1).1) hx)
   have W2 := yz (ql (yy W1) hx)
   clear hx B1 A1 N1 W1 cA
   go_wp2_with fail
   refine (pP x y z cone _).mono ?_
   rintro e V3 ⟨rfl, hx⟩
   have B3 := yz (ak (yy B2) hx)
   have A3 := yz ((yy A2).kept (yy A2).lt hx)
   have N3 := yz ((yy N2).kept (World.block_lt_of_cell? _ _ (yy N2).1) hx)
   have hown := ql (yy W2) hx
   clear hx B2 A2 N2 W2
   rw [← yy HQ]
   have hlen := kI L a b c d cone k
   cases hq : tR (stA L k) a b c d cone
   ·have HE2 : Hid (bR L a b c d cone (k + 1) = bR L a b c d cone k) := yz (by show (if _ then _ else _) = _; rw [hq]; rfl)
    have W3 := yz hown
    clear hown hq
    go_wp2_with fail
    go_roundw
    case rel => exact ⟨k + 1, by omega, by go_num, by rw [yy HE2]; exact W3, B3, A3⟩
    case measure => simp [intOf]; omega
   ·have HE2 : Hid (bR L a b c d cone (k + 1) = bR L a b c d cone k ++ [s1]) := yz (by show (if _ then _ else _) = _; rw [hq, yy HT]; rfl)
    clear hq
    obtain ⟨e0, _, _, _⟩ := yy N3
    have hsz := (yy B3).size
    have hbl : w.heap.size < V3.heap.size := (yy A3).lt
    go_wp2_with (at_builtin; refine wpList_append_own _ rfl _ _ 81 rfl (w.heap.size + 1) 2 i0 (.int .i64 0) 1 8 Tryz.underlying81 hi hz0 hz1 hz2 rfl (by decide) _ _ _ rfl (hown.alloc _) ⟨V3.heap.size, 0, none⟩ 1 1 [.int .i64 s1] rfl rfl ?c1 ?c2 ?c3 ?c4 ?c5 ?_)
    case c1 =>
     intro j x hj
     match j, hj with
     | 0, hj => simp at hj; subst hj; simp [Addr.add]
    case c2 => intro x hx; simp at hx; subst hx; rfl
    case c3 => unfold maxLen; omega
    case c4 => omega
    case c5 => simp; omega
    intro v' V4 hown' hgrow _
    have hne : some w.heap.size ≠ u7.ownBlock := fun e => by have := (hown.lt _ e.symm).1; omega
    have A4 := yz (((yy A3).alloc (.cells #[.int .i64 s1] 2)).grown hgrow hne)
    have B4 := yz (tW (w2 := V4) ((yy B3).alloc (yy B3).size (.cells #[.int .i64 s1] 2)) (by simp; omega) (World.ownsRow_weak (hown.alloc (.cells #[.int .i64 s1] 2))) hgrow)
    have W4 : Hid (V4.ownsRow (w.heap.size + 1) 2 1 v' (bR L a b c d cone (k + 1)).length (pm (bR L a b c d cone (k + 1)))) := yz (by rw [yy HE2]; simpa [pm] using hown')
    clear hown' hown hgrow hne A3 B3 N3 e0
    go_wp2_with fail
    go_roundw
    case rel => exact ⟨k + 1, by omega, by go_num, W4, B4, A4⟩
    case measure => simp [intOf]; omega
  ·have hkn' : k = n := by omega
   subst hkn'
   go_wp2_with fail
   go_ret
   exact ⟨_, rfl, by rw [yy HV']; exact yy HW, yy HB⟩
def SAt (w : World) (b : Nat) (vs : List Value) : Prop := ∀ i v, vs[i]? = some v → w.cell? ⟨b, i, none⟩ = some v
theorem SAt.lt {w : World} {b : Nat} {v : Value} {vs : List Value} (h : SAt w b (v :: vs)) : b < w.heap.size := World.block_lt_of_cell? w _ (h 0 v rfl)
theorem SAt.kept {w w' : World} {b : Nat} {v : Value} {vs : List Value} (h : SAt w b (v :: vs)) (hB : Below w.heap.size w w') : SAt w' b (v :: vs) := fun i u hu => by
 rw [hB.cell (p := ⟨b, i, none⟩) h.lt]; exact h i u hu
theorem SAt.c3 {w : World} {b : Nat} {x y z : Value} (h : SAt w b [x, y, z]) : w.cell? ⟨b, 0, none⟩ = some x ∧ w.cell? ⟨b, 1, none⟩ = some y ∧ w.cell? ⟨b, 2, none⟩ = some z := ⟨h 0 x rfl, h 1 y rfl, h 2 z rfl⟩
theorem SAt.c5 {w : World} {b : Nat} {x y z u v : Value} (h : SAt w b [x, y, z, u, v]) : w.cell? ⟨b, 0, none⟩ = some x ∧ w.cell? ⟨b, 1, none⟩ = some y ∧ w.cell? ⟨b, 2, none⟩ = some z ∧ w.cell? ⟨b, 3, none⟩ = some u ∧ w.cell? ⟨b, 4, none⟩ = some v := ⟨h 0 x rfl, h 1 y rfl, h 2 z rfl, h 3 u rfl, h 4 v rfl⟩
end
section
structure Fr where
 wd : Nat
 ht : Nat
 px : Nat → Nat
 lv : Int
def Fr.n (f : Fr) : Nat := f.wd * f.ht
def cnt (T : Nat → Bool) : Nat → Nat
 | 0 => 0
 | n + 1 => cnt T n + if T n = true then 1 else 0
theorem tp (T : Nat → Bool) : ∀ n, cnt T n ≤ n
 | 0 => Nat.le_refl _
 | n + 1 => by unfold cnt; have := tp T n; split <;> omega
structure Good (f : Fr) (c : Nat) (s : (Nat → Bool) × List Nat) : Prop where
 num : cnt s.1 f.n = c + s.2.length
 lies : ∀ j ∈ s.2, j < f.n
theorem Good.len {f : Fr} {c : Nat} {s : (Nat → Bool) × List Nat} (h : Good f c s) : c + s.2.length ≤ f.n := by rw [← h.num]; exact tp _ _
end
end Go.Proofs.YtdchjcadhlkpfaaGreatDoor
