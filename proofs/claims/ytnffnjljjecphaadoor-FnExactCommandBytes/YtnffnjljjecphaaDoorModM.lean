/- Trackers, plainly: what one is, and whether it is right. -/
import Derived.Test.YtnffnjljjecphaaDoorSkyMath
import Derived.Test.YtnffnjljjecphaaDoorTurnMath2
namespace Go.Proofs.YtnffnjljjecphaaDoor
set_option linter.unusedVariables false

structure Tk where
  L : List St
  lim : Int
  mode : Int
  A : Int
  B : Int
  C : Int
  D : Int
  coast : Int
  fr : Int
def spanB (lo hi x : Int) : Bool := decide (lo ≤ x) && decide (x ≤ hi)
def modeB (t : Tk) : Bool :=
  if t.mode = 0 then eqT t.A t.B t.C t.D 0 0 0 0 && decide (t.coast = 0)
  else if t.mode = 1 then rightT t.A t.B t.C t.D && decide (t.coast = 0)
  else if t.mode = 2 then rightT t.A t.B t.C t.D && spanB 1 t.lim t.coast
  else false
def headB (t : Tk) : Bool := skyB t.L && spanB 1 5 t.lim && spanB 0 1000000 t.fr
def trackB (t : Tk) : Bool := headB t && modeB t
theorem span_yes {lo hi x : Int} (h1 : lo ≤ x) (h2 : x ≤ hi) : spanB lo hi x = true := by unfold spanB; rw [decide_eq_true h1, decide_eq_true h2]; rfl
theorem span_low {lo hi x : Int} (h : ¬ lo ≤ x) : spanB lo hi x = false := by unfold spanB; rw [decide_eq_false h]; rfl
theorem span_high {lo hi x : Int} (h : ¬ x ≤ hi) : spanB lo hi x = false := by unfold spanB; rw [decide_eq_false h]; simp
theorem span_iff {lo hi x : Int} : spanB lo hi x = true ↔ lo ≤ x ∧ x ≤ hi := by unfold spanB; simp
theorem track_no1 {t : Tk} (h : skyB t.L = false) : trackB t = false := by unfold trackB headB; rw [h]; rfl
theorem track_no2 {t : Tk} (h : spanB 1 5 t.lim = false) : trackB t = false := by unfold trackB headB; rw [h]; simp
theorem track_no3 {t : Tk} (h : spanB 0 1000000 t.fr = false) : trackB t = false := by unfold trackB headB; rw [h]; simp
theorem track_head {t : Tk} (h1 : skyB t.L = true) (h2 : spanB 1 5 t.lim = true) (h3 : spanB 0 1000000 t.fr = true) : trackB t = modeB t := by unfold trackB headB; rw [h1, h2, h3]; rfl
theorem mode_0 {t : Tk} (h : t.mode = 0) : modeB t = (eqT t.A t.B t.C t.D 0 0 0 0 && decide (t.coast = 0)) := by unfold modeB; rw [if_pos h]
theorem mode_1 {t : Tk} (h : t.mode = 1) : modeB t = (rightT t.A t.B t.C t.D && decide (t.coast = 0)) := by unfold modeB; rw [if_neg (by omega), if_pos h]
theorem mode_2 {t : Tk} (h : t.mode = 2) : modeB t = (rightT t.A t.B t.C t.D && spanB 1 t.lim t.coast) := by unfold modeB; rw [if_neg (by omega), if_neg (by omega), if_pos h]
theorem mode_n {t : Tk} (h0 : t.mode ≠ 0) (h1 : t.mode ≠ 1) (h2 : t.mode ≠ 2) : modeB t = false := by unfold modeB; rw [if_neg h0, if_neg h1, if_neg h2]
theorem track_sky {t : Tk} (h : trackB t = true) : skyB t.L = true := by
  cases hq : skyB t.L
  · rw [track_no1 hq] at h; cases h
  · rfl
theorem track_lim {t : Tk} (h : trackB t = true) : 1 ≤ t.lim ∧ t.lim ≤ 5 := by
  cases hq : spanB 1 5 t.lim
  · rw [track_no2 hq] at h; cases h
  · exact span_iff.1 hq
theorem track_fr {t : Tk} (h : trackB t = true) : 0 ≤ t.fr ∧ t.fr ≤ 1000000 := by
  cases hq : spanB 0 1000000 t.fr
  · rw [track_no3 hq] at h; cases h
  · exact span_iff.1 hq
theorem track_mode {t : Tk} (h : trackB t = true) : modeB t = true := by unfold trackB at h; rw [Bool.and_eq_true] at h; exact h.2
/-- who is not lost has a right turn -/
theorem track_turn {t : Tk} (h : trackB t = true) (h0 : t.mode ≠ 0) : rightT t.A t.B t.C t.D = true := by
  have hm := track_mode h
  by_cases h1 : t.mode = 1
  · rw [mode_1 h1, Bool.and_eq_true] at hm; exact hm.1
  · by_cases h2 : t.mode = 2
    · rw [mode_2 h2, Bool.and_eq_true] at hm; exact hm.1
    · rw [mode_n h0 h1 h2] at hm; cases hm
/-- a tracker that is lost -/
def lostT (t : Tk) : Tk := { t with mode := 0, A := 0, B := 0, C := 0, D := 0, coast := 0 }
def zeroK : Tk := ⟨[], 0, 0, 0, 0, 0, 0, 0, 0⟩
end Go.Proofs.YtnffnjljjecphaaDoor
