/- The Ids of a right list rise, so a star is found by its own: plain facts. -/
import Derived.Test.YtjdehbpgdplolaaDoorPairM
namespace Go.Proofs.YtjdehbpgdplolaaDoor
open Go.RowKit Go.Sort
set_option linter.unusedVariables false

theorem ok_up {L : List St} {i : Nat} (h : okAt L i = true) (hi : 0 < i) : (stA L (i - 1)).1 < (stA L i).1 := by
  unfold okAt upB at h
  simp only [Bool.and_eq_true, Bool.or_eq_true, decide_eq_true_eq] at h
  omega
theorem ids_rise {L : List St} (h : skyB L = true) : ∀ i, i < L.length → ∀ j, j < i → (stA L j).1 < (stA L i).1
  | 0, _, j, hj => absurd hj (Nat.not_lt_zero _)
  | i + 1, hi, j, hj => by
    have hu := ok_up ((sky_ok h).2 (i + 1) hi) (by omega)
    rw [Nat.add_sub_cancel] at hu
    by_cases e : j = i
    · subst e; exact hu
    · have := ids_rise h i (by omega) j (by omega)
      omega
theorem at_own {L : List St} (h : skyB L = true) {i : Nat} (hi : i < L.length) : atV L L.length (stA L i).1 = (stA L i).2 :=
  at_hit hi (fun j hj e => by have := ids_rise h i hi j hj; omega) rfl
/-- the span of stars i and j -/
def spanOf (L : List St) (i j : Nat) : Sp := (((stA L i).1, (stA L j).1), (stA L i).2, (stA L j).2)
theorem span_order {L : List St} (h : skyB L = true) {i j k m : Nat} (hi : i < L.length) (hj : j < L.length) (hk : k < L.length) (hm : m < L.length) :
    decide (0 < spanI (spanOf L k m) (spanOf L i j)) = lessP L (spanOf L i j).1 (spanOf L k m).1 := by
  have hs : ∀ i, i < L.length → smallV (stA L i).2 = true := fun i hi => ok_small ((sky_ok h).2 i hi)
  rw [span_less (p := spanOf L i j) (q := spanOf L k m) (hs i hi) (hs j hj) (hs k hk) (hs m hm)]
  unfold lessP lessB spanOf
  simp only
  rw [at_own h hi, at_own h hj, at_own h hk, at_own h hm]
end Go.Proofs.YtjdehbpgdplolaaDoor
