/- Named: the program's. -/
import Derived.Test.YtjdehbpgdplolaaDoorNaB
namespace Go.Proofs.YtjdehbpgdplolaaDoor
open Go.RowKit Go.Sort
set_option linter.unusedVariables false

theorem named_no1 {L : List St} {S : List D3} {ids : List Int} (h : skyB L = false) : namedB L S ids = false := by unfold namedB; rw [h]; rfl
theorem named_no2 {L : List St} {S : List D3} {ids : List Int} (h : spotsB S = false) : namedB L S ids = false := by unfold namedB; rw [h, Bool.and_false]; rfl
theorem named_no3 {L : List St} {S : List D3} {ids : List Int} (h : ids.length ≠ S.length) : namedB L S ids = false := by unfold namedB; rw [decide_eq_false h, Bool.and_false]; rfl
theorem named_yes {L : List St} {S : List D3} {ids : List Int} (h1 : skyB L = true) (h2 : spotsB S = true) (h3 : ids.length = S.length) : namedB L S ids = allFit (sightsTo L S ids ids.length) (sightsTo L S ids ids.length).length := by unfold namedB; rw [h1, h2, decide_eq_true h3]; rfl
theorem allFit_yes {A : List Sg} {n : Nat} (h : ∀ i, i < n → (!zeroD (sgA A i).2.2 && fitsB A (sgA A i) i) = true) : allFit A n = true := by
  unfold allFit
  rw [List.all_eq_true]
  exact fun i hi => h i (List.mem_range.1 hi)
theorem allFit_no {A : List Sg} {n i : Nat} (hi : i < n) (h : (!zeroD (sgA A i).2.2 && fitsB A (sgA A i) i) = false) : allFit A n = false := by
  unfold allFit
  rw [List.all_eq_false]
  exact ⟨i, List.mem_range.2 hi, by rw [h]; simp⟩
theorem own_capMax {w : World} {B : Nat} {a : Option Addr} {c n m : Nat} {t : TypeId} {xs : List Value} (h : w.ownsRow B t m (.slice a n c) n xs) : c ≤ maxLen := by
  rcases h.2 with ⟨h1, h0⟩ | ⟨g, cap, cur, hv, hb, hg, hnc, hcm, hcs, htake⟩
  · injection h1 with _ e2 e3
    omega
  · injection hv with e1 e2 e3
    omega
end Go.Proofs.YtjdehbpgdplolaaDoor
