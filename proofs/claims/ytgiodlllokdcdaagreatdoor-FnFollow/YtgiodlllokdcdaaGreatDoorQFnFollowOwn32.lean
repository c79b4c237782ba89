/- Several texts in one: TkM. -/
import Derived.Test.YtgiodlllokdcdaaGreatDoorQFnFollowOwn31
import Derived.Test.YtgiodlllokdcdaaGreatDoorQFnFollowOwn22
import Derived.Test.YtgiodlllokdcdaaGreatDoorQFnFollowOwn24
import Derived.Test.YtgiodlllokdcdaaGreatDoorQFnFollowOwn6
namespace Go.Proofs.YtgiodlllokdcdaaGreatDoor
set_option linter.unusedVariables false
set_option linter.unusedSimpArgs false
set_option maxRecDepth 100000
set_option maxHeartbeats 8000000
section
open Go.RowKit
theorem qH {t : Tk} (h : aS t = true) : aS (tW t) = true := by
 unfold aS at h ⊢
 rw [Bool.and_eq_true] at h ⊢
 exact ⟨h.1, rfl⟩
theorem tB {a b c d e f g i : Int} (h : coK a b c d e f g i = 0) : aB a b c d = true ∧ aB (ku a b c d e f g i) (kw a b c d e f g i) (kx a b c d e f g i) (ky a b c d e f g i) = true := by
 unfold coK at h
 split at h
 ·rename_i hr
  have hr' : aB a b c d = true := by unfold coR at hr; rw [Bool.and_eq_true] at hr; exact hr.1
  refine ⟨hr', ?_⟩
  have := (sV h).2.2
  unfold ku kw kx ky coP ofP
  simp only [if_pos hr, if_pos h]
  exact this
 ·cases h
theorem oV {t : Tk} (h : aS t = true) (a b c d : Int) : aS (aT t a b c d) = true := by
 unfold aT
 split
 ·exact h
 ·rename_i h0
  split
  ·rename_i hk
   have hr := (tB hk).2
   have hm := ms h
   unfold aS at h ⊢
   rw [Bool.and_eq_true] at h ⊢
   refine ⟨h.1, ?_⟩
   by_cases h1 : t.mode = 1
   ·rw [lK h1, Bool.and_eq_true] at hm
    rw [lK (by exact h1), Bool.and_eq_true]
    exact ⟨hr, hm.2⟩
   ·by_cases h2 : t.mode = 2
    ·rw [lL h2, Bool.and_eq_true] at hm
     rw [lL (by exact h2), Bool.and_eq_true]
     exact ⟨hr, hm.2⟩
    ·rw [ov h0 h1 h2] at hm; cases hm
  ·exact qH h
theorem qB {t : Tk} {g1 g2 g3 g4 : Int} (h : fq t g1 g2 g3 g4 = 0) : aS t = true ∧ aB g1 g2 g3 g4 = true ∧ eb t g1 g2 g3 g4 = aT t g1 g2 g3 g4 ∧ aS (eb t g1 g2 g3 g4) = true := by
 unfold fq at h
 split at h
 ·rename_i hk
  have e : eb t g1 g2 g3 g4 = aT t g1 g2 g3 g4 := by unfold eb; rw [if_pos hk]
  unfold eC at hk
  rw [Bool.and_eq_true] at hk
  exact ⟨hk.1, hk.2, e, by rw [e]; exact oV hk.1 _ _ _ _⟩
 ·cases h
end
end Go.Proofs.YtgiodlllokdcdaaGreatDoor
