/- Frames and blobs: whether a frame is right, whether a blob is good; what the laws' helpers answer. -/
import Derived.Test.YtjdehbpgdplolaaDoorVecA
import Derived.Lib.QuietBelow
import Derived.Deep.QuietTactic
import Derived.BigQuiet
namespace Go.Proofs.YtjdehbpgdplolaaDoor
open Go.RowKit Go.Sort
set_option linter.unusedVariables false

def frameB (wd ht : Int) (s : ByteArray) : Bool := decide (1 ≤ wd) && decide (wd ≤ 16) && decide (1 ≤ ht) && decide (ht ≤ 12) && decide ((s.size : Int) = wd * ht)
def goodB (ar : Int) (ed : Bool) (lo hi : Int) : Bool := decide (lo ≤ ar) && decide (ar ≤ hi) && !ed
theorem frameB_iff {wd ht : Int} {s : ByteArray} : frameB wd ht s = true ↔ (1 ≤ wd ∧ wd ≤ 16 ∧ 1 ≤ ht ∧ ht ≤ 12 ∧ (s.size : Int) = wd * ht) := by
  unfold frameB
  simp only [Bool.and_eq_true, decide_eq_true_eq, and_assoc]
theorem good_yes {ar lo hi : Int} {ed : Bool} (h1 : lo ≤ ar) (h2 : ar ≤ hi) : goodB ar ed lo hi = !ed := by unfold goodB; simp [h1, h2]
theorem good_no {ar lo hi : Int} {ed : Bool} (h : ar < lo ∨ hi < ar) : goodB ar ed lo hi = false := by
  unfold goodB
  rcases h with h | h
  · rw [show decide (lo ≤ ar) = false by simp; omega]; rfl
  · rw [show decide (ar ≤ hi) = false by simp; omega]; simp
theorem frame_no {wd ht : Int} {s : ByteArray} (h : wd < 1 ∨ 16 < wd ∨ ht < 1 ∨ 12 < ht) : frameB wd ht s = false := by
  cases e : frameB wd ht s
  · rfl
  · have := frameB_iff.1 e; omega

/-- what szFrame leaves of left -/
def szI (left : Int) (s : ByteArray) : Int := if left - (s.size : Int) < 0 then -1 else left - (s.size : Int)
end Go.Proofs.YtjdehbpgdplolaaDoor
