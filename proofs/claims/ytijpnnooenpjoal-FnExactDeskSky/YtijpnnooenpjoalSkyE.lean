/- Whether a list of stars is right: the specification's. -/
import Derived.Test.YtijpnnooenpjoalSkyD
namespace Go.Proofs.Ytijpnnooenpjoal
open Go.RowKit Go.Sort
set_option linter.unusedVariables false

theorem eqB_comm (a1 a2 a3 b1 b2 b3 : Int) : eqB a1 a2 a3 b1 b2 b3 = eqI b1 b2 b3 a1 a2 a3 := by
  unfold eqB eqI
  congr 1
  apply propext
  constructor <;> rintro ⟨h1, h2, h3⟩ <;> exact ⟨h1.symm, h2.symm, h3.symm⟩
theorem okAt_no1 {L : List St} {i : Nat} {s1 s2 s3 s4 : Int} (hs : stA L i = (s1, s2, s3, s4)) (h : idB s1 = false) : okAt L i = false := by unfold okAt; rw [hs]; simp [h]
theorem okAt_no2 {L : List St} {i : Nat} (h : upB L i = false) : okAt L i = false := by unfold okAt; simp [h]
theorem okAt_no3 {L : List St} {i : Nat} {s1 s2 s3 s4 : Int} (hs : stA L i = (s1, s2, s3, s4)) (h : smallB s2 s3 s4 = false) : okAt L i = false := by unfold okAt; rw [hs]; simp [h]
theorem okAt_no4 {L : List St} {i : Nat} {s1 s2 s3 s4 : Int} (hs : stA L i = (s1, s2, s3, s4)) (h : primeB s2 s3 s4 = false) : okAt L i = false := by unfold okAt; rw [hs]; simp [h]
theorem okAt_no5 {L : List St} {i : Nat} (h : takenB L (stA L i) i = true) : okAt L i = false := by unfold okAt; simp [h]
theorem okAt_yes {L : List St} {i : Nat} {s1 s2 s3 s4 : Int} (hs : stA L i = (s1, s2, s3, s4)) (h1 : idB s1 = true) (h2 : upB L i = true) (h3 : smallB s2 s3 s4 = true) (h4 : primeB s2 s3 s4 = true) (h5 : takenB L (stA L i) i = false) : okAt L i = true := by
  unfold okAt
  rw [h5, h2, hs]
  simp [h1, h3, h4]

end Go.Proofs.Ytijpnnooenpjoal
