/- The two orders of pairs are one: plain facts. -/
import Derived.Test.YtjdehbpgdplolaaDoorPairF
import Derived.Test.YtjdehbpgdplolaaDoorVecL
namespace Go.Proofs.YtjdehbpgdplolaaDoor
open Go.RowKit Go.Sort
set_option linter.unusedVariables false

theorem ordI_flip (a b : Int) : ordI b a = -ordI a b := by
  unfold ordI
  repeat' split
  all_goals omega
theorem wide_small {x y z : Int} (h : smallB x y z = true) : wideB x y z = true := by
  obtain ⟨h1, h2⟩ := small_iff h
  have hw := withinB_iff.1 h2
  unfold wideB
  rw [h1, Bool.true_and]
  exact withinB_iff.2 (by omega)
def smallV (v : V3) : Bool := smallB v.1 v.2.1 v.2.2
theorem cosQ_flip {p q : Sp} (h1 : smallV p.2.1 = true) (h2 : smallV p.2.2 = true) (h3 : smallV q.2.1 = true) (h4 : smallV q.2.2 = true) : cosQ q p = -cosQ p q := by
  unfold cosQ cosI smallV at *
  rw [wide_small h1, wide_small h2, wide_small h3, wide_small h4, h1, h2, h3, h4, if_pos (by rfl), if_pos (by rfl)]
  exact ordI_flip _ _
theorem cosQ_spec {p q : Sp} (h1 : smallV p.2.1 = true) (h2 : smallV p.2.2 = true) (h3 : smallV q.2.1 = true) (h4 : smallV q.2.2 = true) : cosQ p q = cosP p.2.1 p.2.2 q.2.1 q.2.2 :=
  cos_eq2 (wide_small h1) (wide_small h2) h3 h4
/-- q stands behind p in the program's order, iff p is ahead of q in the specification's -/
theorem span_less {p q : Sp} (h1 : smallV p.2.1 = true) (h2 : smallV p.2.2 = true) (h3 : smallV q.2.1 = true) (h4 : smallV q.2.2 = true) :
    decide (0 < spanI q p) = lessC (cosP p.2.1 p.2.2 q.2.1 q.2.2) p.1.1 p.1.2 q.1.1 q.1.2 := by
  unfold spanI lessC
  rw [cosQ_flip h1 h2 h3 h4, cosQ_spec h1 h2 h3 h4]
  generalize cosP p.2.1 p.2.2 q.2.1 q.2.2 = c
  by_cases hc : c = 0
  · subst hc
    rw [if_pos (by rfl), if_pos rfl]
    unfold ordI
    by_cases ha : p.1.1 < q.1.1
    · have e : ¬ q.1.1 < p.1.1 := by omega
      simp [ha, e]
    · by_cases hb : p.1.1 = q.1.1
      · by_cases hd : p.1.2 < q.1.2
        · have e : ¬ q.1.2 < p.1.2 := by omega
          simp [hb, hd, e]
        · by_cases he : q.1.2 < p.1.2
          · simp [hb, hd, he]
          · simp [hb, hd, he]
      · have e : q.1.1 < p.1.1 := by omega
        have hb' : ¬ q.1.1 = p.1.1 := fun h => hb h.symm
        simp [ha, hb, e]
  · rw [if_neg (by omega), if_neg hc]
    apply Bool.eq_iff_iff.2
    simp only [decide_eq_true_eq]
    omega
end Go.Proofs.YtjdehbpgdplolaaDoor
