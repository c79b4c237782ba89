/- Frames and blobs: whether a frame is right, whether a blob is good; what the laws' helpers answer. -/
import Derived.Test.YtackifnnhjbgbaaVecA
import Derived.Lib.QuietBelow
import Derived.Deep.QuietTactic
import Derived.BigQuiet
namespace Go.Proofs.Ytackifnnhjbgbaa
open Go.RowKit Go.Sort
set_option linter.unusedVariables false

def frameB (wd ht : Int) (s : ByteArray) : Bool := decide (1 ≤ wd) && decide (wd ≤ 16) && decide (1 ≤ ht) && decide (ht ≤ 12) && decide ((s.size : Int) = wd * ht)
def goodB (ar : Int) (ed : Bool) (lo hi : Int) : Bool := decide (lo ≤ ar) && decide (ar ≤ hi) && !ed
theorem frameB_iff {wd ht : Int} {s : ByteArray} : frameB wd ht s = true ↔ (1 ≤ wd ∧ wd ≤ 16 ∧ 1 ≤ ht ∧ ht ≤ 12 ∧ (s.size : Int) = wd * ht) := by
  unfold frameB
  simp only [Bool.and_eq_true, decide_eq_true_eq, and_assoc]
theorem good_yes {ar lo hi : Int} {ed : Bool} (h1 : lo ≤ ar) (h2 : ar ≤ hi) : goodB ar ed lo hi = !ed := by unfold goodB; simp [h1, h2]
theorem good_no {ar lo hi : Int} {ed : Bool} (h : ar < lo ∨ hi < ar) : goodB ar ed lo hi = false := by
  unfold goodB
  rcases h with h | h
  · rw [show decide (lo ≤ ar) = false by simp; omega]; rfl
  · rw [show decide (ar ≤ hi) = false by simp; omega]; simp
theorem frame_no {wd ht : Int} {s : ByteArray} (h : wd < 1 ∨ 16 < wd ∨ ht < 1 ∨ 12 < ht) : frameB wd ht s = false := by
  cases e : frameB wd ht s
  · rfl
  · have := frameB_iff.1 e; omega

set_option maxRecDepth 100000 in
theorem specFrameRight_any (wd ht : Int) (s : ByteArray) (w : World) :
    Calls Try.prog 17 #[.agg #[.int .i64 wd, .int .i64 ht, .string s]] w fun e w' => e = .returned (.bool (frameB wd ht s)) ∧ Below w.heap.size w w' := by
  go_enter Try.func17, Try.ntmps17
  go_wp2_with fail
  refine (l02Is_any wd 1 16 _).mono ?_
  rintro e w1 ⟨rfl, rfl⟩
  by_cases h1 : 1 ≤ wd ∧ wd ≤ 16
  · have e1 : (decide (1 ≤ wd) && decide (wd ≤ 16)) = true := by simp [h1]
    rw [e1]
    go_wp2_with fail
    refine (l02Is_any ht 1 12 _).mono ?_
    rintro e w1 ⟨rfl, rfl⟩
    by_cases h2 : 1 ≤ ht ∧ ht ≤ 12
    · have e2 : (decide (1 ≤ ht) && decide (ht ≤ 12)) = true := by simp [h2]
      rw [e2]
      obtain ⟨a1, a2⟩ := h1
      obtain ⟨a3, a4⟩ := h2
      have hm : wrap64 (wd * ht) = wd * ht := by
        have h0 := Int.mul_nonneg (show 0 ≤ wd by omega) (show 0 ≤ ht by omega)
        have h1 := Int.mul_le_mul a2 a4 (by omega) (by omega)
        exact wrap_id (by omega) (by omega)
      have HF : Hid (frameB wd ht s = decide ((s.size : Int) = wd * ht)) := hide (by unfold frameB; simp [a1, a2, a3, a4])
      clear e1 e2
      go_wp2_with fail
      go_ret
      exact ⟨by rw [unhide HF]; rfl, below1 _ _⟩
    · have e2 : (decide (1 ≤ ht) && decide (ht ≤ 12)) = false := by simp; omega
      rw [e2]
      go_wp2_with fail
      go_ret
      exact ⟨by rw [frame_no (by omega)]; rfl, below1 _ _⟩
  · have e1 : (decide (1 ≤ wd) && decide (wd ≤ 16)) = false := by simp; omega
    rw [e1]
    go_wp2_with fail
    go_ret
    exact ⟨by rw [frame_no (by omega)]; rfl, below1 _ _⟩

set_option maxRecDepth 100000 in
theorem frameRight_any (wd ht : Int) (s : ByteArray) (w : World) :
    Calls Try.prog 16 #[.agg #[.int .i64 wd, .int .i64 ht, .string s]] w fun e w' => e = .returned (.bool (frameB wd ht s)) ∧ Below w.heap.size w w' := by
  by_cases h1 : wd < 1
  · go_enter Try.func16, Try.ntmps16
    go_wp2_with fail
    go_ret
    exact ⟨by rw [frame_no (by omega)]; rfl, below1 _ _⟩
  by_cases h2 : 16 < wd
  · go_enter Try.func16, Try.ntmps16
    go_wp2_with fail
    go_ret
    exact ⟨by rw [frame_no (by omega)]; rfl, below1 _ _⟩
  by_cases h3 : ht < 1
  · go_enter Try.func16, Try.ntmps16
    go_wp2_with fail
    go_ret
    exact ⟨by rw [frame_no (by omega)]; rfl, below1 _ _⟩
  by_cases h4 : 12 < ht
  · go_enter Try.func16, Try.ntmps16
    go_wp2_with fail
    go_ret
    exact ⟨by rw [frame_no (by omega)]; rfl, below1 _ _⟩
  have hm : wrap64 (wd * ht) = wd * ht := by
    have h0 := Int.mul_nonneg (show 0 ≤ wd by omega) (show 0 ≤ ht by omega)
    have h1 := Int.mul_le_mul (show wd ≤ 16 by omega) (show ht ≤ 12 by omega) (by omega) (by omega)
    exact wrap_id (by omega) (by omega)
  have HF : Hid (frameB wd ht s = decide ((s.size : Int) = wd * ht)) := hide (by
    unfold frameB
    rw [show decide (1 ≤ wd) = true by simp; omega, show decide (wd ≤ 16) = true by simp; omega, show decide (1 ≤ ht) = true by simp; omega, show decide (ht ≤ 12) = true by simp; omega]
    rfl)
  go_enter Try.func16, Try.ntmps16
  go_wp2_with fail
  go_ret
  exact ⟨by rw [unhide HF]; rfl, below1 _ _⟩

set_option maxRecDepth 100000 in
theorem toFrame_any (wd ht : Int) (s : ByteArray) (w : World) :
    Calls Try.prog 7 #[.agg #[.int .i64 wd, .int .i64 ht, .string s]] w fun e w' => e = .returned (.agg #[.int .i64 wd, .int .i64 ht, .string s]) ∧ Below w.heap.size w w' := by
  go_enter Try.func7, Try.ntmps7
  go_wp2
  exact bodyPost_ret (v := .agg #[.int .i64 wd, .int .i64 ht, .string s]) (by simp [results, Try.results7, go_sem]) rfl ⟨rfl, below3 _ _ _ _⟩
/-- what szFrame leaves of left -/
def szI (left : Int) (s : ByteArray) : Int := if left - (s.size : Int) < 0 then -1 else left - (s.size : Int)
set_option maxRecDepth 100000 in
theorem szFrame_any (wd ht : Int) (s : ByteArray) (left : Int) (w : World) (hs : s.size ≤ maxLen) (h0 : 0 ≤ left) (h1 : left ≤ 1048576) :
    Calls Try.prog 5 #[.agg #[.int .i64 wd, .int .i64 ht, .string s], .int .i64 left] w fun e w' => e = .returned (.int .i64 (szI left s)) ∧ Below w.heap.size w w' := by
  unfold maxLen at hs
  by_cases h2 : left - (s.size : Int) < 0
  · go_enter Try.func5, Try.ntmps5
    go_wp2_with fail
    go_ret
    exact ⟨by unfold szI; rw [if_pos h2]; rfl, below1 _ _⟩
  · go_enter Try.func5, Try.ntmps5
    go_wp2_with fail
    go_ret
    exact ⟨by unfold szI; rw [if_neg (by omega)]; rfl, below1 _ _⟩
end Go.Proofs.Ytackifnnhjbgbaa
