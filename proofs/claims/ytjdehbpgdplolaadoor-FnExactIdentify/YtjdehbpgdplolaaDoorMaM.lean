/- Plain facts for MatchAt: which star a turn brings to a spot. -/
import Derived.Test.YtjdehbpgdplolaaDoorIdM
import Derived.Test.YtjdehbpgdplolaaDoorSkyMath
import Derived.Test.YtjdehbpgdplolaaDoorTurnMath2
namespace Go.Proofs.YtjdehbpgdplolaaDoor
open Go.RowKit
set_option linter.unusedVariables false

theorem sameD_comm (p q : D3) : sameD p q = sameD q p := by
  unfold sameD
  by_cases hp : rightB p.1 p.2.1 p.2.2 = true
  · by_cases hq : rightB q.1 q.2.1 q.2.2 = true
    · exact same_turned hp hq
    · rw [Bool.not_eq_true] at hq
      unfold sameB
      rw [hq]
      simp
  · rw [Bool.not_eq_true] at hp
    unfold sameB
    rw [hp]
    simp
/-- what the specification asks of two directions of parts to a million, right or not -/
theorem same_within {a1 a2 a3 b1 b2 b3 : Int} (ha : withinB 1000000 a1 a2 a3 = true) (hb : withinB 1000000 b1 b2 b3 = true) :
    (decide (crW a2 a3 b2 b3 = 0 ∧ crW a3 a1 b3 b1 = 0 ∧ crW a1 a2 b1 b2 = 0) && decide (0 < dotW a1 a2 a3 b1 b2 b3)) = sameB a1 a2 a3 b1 b2 b3 := by
  unfold sameB rightB
  rw [ha, hb]
  by_cases za : a1 = 0 ∧ a2 = 0 ∧ a3 = 0
  · obtain ⟨rfl, rfl, rfl⟩ := za
    have : dotW 0 0 0 b1 b2 b3 = 0 := by have z : wrap64 0 = 0 := wrap_id (by omega) (by omega); unfold dotW; simp [z]
    rw [this]
    simp [zeroB]
  · by_cases zb : b1 = 0 ∧ b2 = 0 ∧ b3 = 0
    · obtain ⟨rfl, rfl, rfl⟩ := zb
      have : dotW a1 a2 a3 0 0 0 = 0 := by have z : wrap64 0 = 0 := wrap_id (by omega) (by omega); unfold dotW; simp [z]
      rw [this]
      simp [zeroB]
    · have h1 : zeroB a1 a2 a3 = false := by unfold zeroB; simp only [decide_eq_false_iff_not]; exact za
      have h2 : zeroB b1 b2 b3 = false := by unfold zeroB; simp only [decide_eq_false_iff_not]; exact zb
      rw [h1, h2]
      rfl
theorem small_wideB {x y z : Int} (h : smallB x y z = true) : wideB x y z = true := by
  obtain ⟨h1, h2⟩ := small_iff h
  unfold wideB
  rw [h1, Bool.true_and, withinB_iff]
  rw [withinB_iff] at h2
  omega
def apD (a b c d : Int) (v : D3) : D3 := (apX a b c d v.1 v.2.1 v.2.2, apY a b c d v.1 v.2.1 v.2.2, apZ a b c d v.1 v.2.1 v.2.2)
theorem apD_within {a b c d : Int} {v : D3} (ht : rightT a b c d = true) (hv : smallB v.1 v.2.1 v.2.2 = true) : withinB 1000000 (apD a b c d v).1 (apD a b c d v).2.1 (apD a b c d v).2.2 = true := by
  refine ap_bound (D := 300) ht ?_ (by omega) (by omega)
  have h := dot_bound (small_iff hv).2 (small_iff hv).2
  omega
/-- the Id of the last of the first k stars that is brought to v -/
def idTo (L : List St) (a b c d : Int) (v : D3) : Nat → Int
  | 0 => 0
  | k + 1 => if sameD v (apD a b c d (stA L k).2) = true then (stA L k).1 else idTo L a b c d v k
def matchOk (L : List St) (a b c d : Int) (S : List D3) : Bool := skyB L && rightT a b c d && spotsB S
def matchL (L : List St) (a b c d : Int) (S : List D3) : List Int := if matchOk L a b c d S = true then S.map (fun v => idTo L a b c d v L.length) else []
theorem match_no1 {L : List St} {a b c d : Int} {S : List D3} (h : skyB L = false) : matchL L a b c d S = [] := by unfold matchL matchOk; rw [h]; rfl
theorem match_no2 {L : List St} {a b c d : Int} {S : List D3} (h : rightT a b c d = false) : matchL L a b c d S = [] := by unfold matchL matchOk; rw [h, Bool.and_false]; rfl
theorem match_no3 {L : List St} {a b c d : Int} {S : List D3} (h : spotsB S = false) : matchL L a b c d S = [] := by unfold matchL matchOk; rw [h, Bool.and_false]; rfl
theorem match_yes {L : List St} {a b c d : Int} {S : List D3} (h1 : skyB L = true) (h2 : rightT a b c d = true) (h3 : spotsB S = true) : matchL L a b c d S = S.map (fun v => idTo L a b c d v L.length) := by unfold matchL matchOk; rw [h1, h2, h3]; rfl
theorem match_len (L : List St) (a b c d : Int) (S : List D3) : (matchL L a b c d S).length ≤ 6 := by
  unfold matchL
  split
  · rename_i h
    unfold matchOk at h
    rw [Bool.and_eq_true] at h
    rw [List.length_map]
    exact (spots_ok h.2).1
  · simp
end Go.Proofs.YtjdehbpgdplolaaDoor
