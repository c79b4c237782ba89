/- The bytes of a list of stars: the program's and the specification's. -/
import Derived.Test.YtnffnjljjecphaaDoorSkyG
import Derived.Test.YtnffnjljjecphaaDoorPutNum
import Derived.Test.YtnffnjljjecphaaDoorJoin
import Derived.Test.YtnffnjljjecphaaDoorSeal
namespace Go.Proofs.YtnffnjljjecphaaDoor
open Go.RowKit Go.Sort
set_option linter.unusedVariables false

def starB (s : St) : ByteArray := numS s.1 ++ numS s.2.1 ++ numS s.2.2.1 ++ numS s.2.2.2
def skyTo (L : List St) : Nat → ByteArray
  | 0 => numS (L.length : Int)
  | k + 1 => skyTo L k ++ starB (stA L k)
def skyS (L : List St) : ByteArray := if skyB L = true then sealOf (skyTo L L.length) else ⟨#[]⟩
theorem starB_size (s : St) : (starB s).size ≤ 40 := by
  have h1 := (numS_size s.1).2
  have h2 := (numS_size s.2.1).2
  have h3 := (numS_size s.2.2.1).2
  have h4 := (numS_size s.2.2.2).2
  unfold starB
  simp only [ByteArray.size_append]
  omega
theorem skyTo_size (L : List St) (k : Nat) : (skyTo L k).size ≤ 10 + 40 * k := by
  induction k with
  | zero => exact (numS_size _).2
  | succ k ih =>
    have := starB_size (stA L k)
    unfold skyTo
    rw [ByteArray.size_append]
    omega
theorem ok_bounds {L : List St} {i : Nat} {s1 s2 s3 s4 : Int} (hs : stA L i = (s1, s2, s3, s4)) (h : okAt L i = true) : (1 ≤ s1 ∧ s1 ≤ 9999) ∧ (-10 ≤ s2 ∧ s2 ≤ 10) ∧ (-10 ≤ s3 ∧ s3 ≤ 10) ∧ (-10 ≤ s4 ∧ s4 ≤ 10) := by
  have hsm := ok_small h
  unfold okAt idB at h
  rw [hs] at h hsm
  simp only [Bool.and_eq_true, decide_eq_true_eq] at h
  have hw := withinB_iff.1 (small_iff hsm).2
  exact ⟨⟨h.1.1.1.1, h.1.1.1.2⟩, hw.1, hw.2.1, hw.2.2⟩

end Go.Proofs.YtnffnjljjecphaaDoor
