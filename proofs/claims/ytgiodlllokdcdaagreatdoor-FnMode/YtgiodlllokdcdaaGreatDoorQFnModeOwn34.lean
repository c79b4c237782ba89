/- Several texts in one: TkM. -/
import Derived.Test.YtgiodlllokdcdaaGreatDoorQFnModeOwn33
import Derived.Test.YtgiodlllokdcdaaGreatDoorQFnModeOwn26
import Derived.Test.YtgiodlllokdcdaaGreatDoorQFnModeOwn27
import Derived.Test.YtgiodlllokdcdaaGreatDoorQFnModeOwn6
namespace Go.Proofs.YtgiodlllokdcdaaGreatDoor
set_option linter.unusedVariables false
set_option linter.unusedSimpArgs false
set_option maxRecDepth 100000
set_option maxHeartbeats 8000000
section
open Go.RowKit
theorem lT {t : Tk} (h : aG t = true) : aG (pS t) = true := by
 unfold aG at h ⊢
 rw [Bool.and_eq_true] at h ⊢
 exact ⟨h.1, rfl⟩
theorem tp {a b c d e f g i : Int} (h : coK a b c d e f g i = 0) : aC a b c d = true ∧ aC (od a b c d e f g i) (oe a b c d e f g i) (og a b c d e f g i) (oh a b c d e f g i) = true := by
 unfold coK at h
 split at h
 ·rename_i hr
  have hr' : aC a b c d = true := by unfold coR at hr; rw [Bool.and_eq_true] at hr; exact hr.1
  refine ⟨hr', ?_⟩
  have := (sN h).2.2
  unfold od oe og oh coP ofP
  simp only [if_pos hr, if_pos h]
  exact this
 ·cases h
theorem pg {t : Tk} (h : aG t = true) (a b c d : Int) : aG (bs t a b c d) = true := by
 unfold bs
 split
 ·exact h
 ·rename_i h0
  split
  ·rename_i hk
   have hr := (tp hk).2
   have hm := gw h
   unfold aG at h ⊢
   rw [Bool.and_eq_true] at h ⊢
   refine ⟨h.1, ?_⟩
   by_cases h1 : t.mode = 1
   ·rw [gq h1, Bool.and_eq_true] at hm
    rw [gq (by exact h1), Bool.and_eq_true]
    exact ⟨hr, hm.2⟩
   ·by_cases h2 : t.mode = 2
    ·rw [iV h2, Bool.and_eq_true] at hm
     rw [iV (by exact h2), Bool.and_eq_true]
     exact ⟨hr, hm.2⟩
    ·rw [lV h0 h1 h2] at hm; cases hm
  ·exact lT h
theorem kz {L : List St} {S : List D3} (h : (aP L S).2 = 0) : aC (aP L S).1.1 (aP L S).1.2.1 (aP L S).1.2.2.1 (aP L S).1.2.2.2 = true := by
 unfold aP at h ⊢
 split at h
 ·rename_i hk
  rw [if_pos hk]
  unfold fH at h ⊢
  split at h
  ·cases h
  ·rename_i h4
   rw [if_neg h4]
   split at h
   ·rename_i h5
    rw [if_pos h5]
    split at h
    ·cases h
    ·rename_i h6
     rw [if_neg h6]
     unfold dF at h ⊢
     split at h
     ·rename_i t ht
      have hm := List.mem_of_find?_eq_some ht
      obtain ⟨k, hk, e⟩ := List.getElem_of_mem hm
      have := gZ hk
      have e2 : tA (az 625) k = t := by unfold tA; rw [List.getD_eq_getElem?_getD, List.getElem?_eq_getElem hk, e]; rfl
      rw [e2] at this
      exact this
     ·cases h
   ·cases h
 ·rename_i hk
  exact absurd h hk
theorem pA {t : Tk} (h : aG t = true) (hf : t.fr ≠ 1000000) : jp { t with fr := t.fr + 1 } = true := by
 have h2 := ui h
 unfold aG jp at h
 simp only [Bool.and_eq_true] at h
 unfold jp
 simp only [Bool.and_eq_true]
 exact ⟨h.1.1, jG (by show 0 ≤ t.fr + 1; omega) (by show t.fr + 1 ≤ 1000000; omega)⟩
theorem qL {t : Tk} (h : aG t = true) (S : List D3) (hf : t.fr ≠ 1000000) : aG (bS t S) = true := by
 have hd := pA h hf
 have hm := gw h
 unfold bS
 split
 ·rename_i h1
  have hr := ja h h1.1
  unfold aG
  rw [Bool.and_eq_true]
  refine ⟨hd, ?_⟩
  rw [gq rfl, Bool.and_eq_true]
  exact ⟨hr, rfl⟩
 ·split
  ·rename_i h2
   unfold aG
   rw [Bool.and_eq_true]
   refine ⟨hd, ?_⟩
   rw [gq rfl, Bool.and_eq_true]
   exact ⟨kz h2, rfl⟩
  ·unfold aQ
   split
   ·unfold aG
    rw [Bool.and_eq_true]
    exact ⟨hd, hm⟩
   ·rename_i h0
    split
    ·unfold aG
     rw [Bool.and_eq_true]
     exact ⟨hd, rfl⟩
    ·rename_i hl
     have hr := ja h h0
     have hc : 0 ≤ t.coast := by
      by_cases h1 : t.mode = 1
      ·rw [gq h1, Bool.and_eq_true] at hm
       have := of_decide_eq_true hm.2
       omega
      ·by_cases h2 : t.mode = 2
       ·rw [iV h2, Bool.and_eq_true] at hm
        have := (gV.1 hm.2).1
        omega
       ·have h0' : t.mode ≠ 0 := h0
        rw [lV h0' h1 h2] at hm; cases hm
     unfold aG
     rw [Bool.and_eq_true]
     refine ⟨hd, ?_⟩
     rw [iV rfl, Bool.and_eq_true]
     exact ⟨hr, jG (by show 1 ≤ t.coast + 1; omega) (by show t.coast + 1 ≤ t.lim; have : ¬ t.lim < t.coast + 1 := hl; omega)⟩
theorem qG {t : Tk} {g1 g2 g3 g4 : Int} (h : fx t g1 g2 g3 g4 = 0) : aG t = true ∧ aC g1 g2 g3 g4 = true ∧ ed t g1 g2 g3 g4 = bs t g1 g2 g3 g4 ∧ aG (ed t g1 g2 g3 g4) = true := by
 unfold fx at h
 split at h
 ·rename_i hk
  have e : ed t g1 g2 g3 g4 = bs t g1 g2 g3 g4 := by unfold ed; rw [if_pos hk]
  unfold eC at hk
  rw [Bool.and_eq_true] at hk
  exact ⟨hk.1, hk.2, e, by rw [e]; exact pg hk.1 _ _ _ _⟩
 ·cases h
end
end Go.Proofs.YtgiodlllokdcdaaGreatDoor
