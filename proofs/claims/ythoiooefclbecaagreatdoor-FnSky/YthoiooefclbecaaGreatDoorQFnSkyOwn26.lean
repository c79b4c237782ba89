/- Several texts in one: ReadB. -/
import Derived.Test.YthoiooefclbecaaGreatDoorQFnSkyOwn25
import Derived.Test.YthoiooefclbecaaGreatDoorQFnSkyOwn17
import Derived.Test.YthoiooefclbecaaGreatDoorQFnSkyOwn19
namespace Go.Proofs.YthoiooefclbecaaGreatDoor
set_option linter.unusedVariables false
set_option linter.unusedSimpArgs false
set_option maxRecDepth 100000
set_option maxHeartbeats 8000000
section
open Go.RowKit
def aN (s : ByteArray) (p : Nat) : Nat → Option (List St × Nat)
 | 0 => some ([], p)
 | k + 1 => match aN s p k with
  | none => none
  | some (L, q) => match bK s q with
   | none => none
   | some (x, q') => some (L ++ [x], q')
def aS (s : ByteArray) : Option (List St × Nat) := match bq s 0 with
 | none => none
 | some (n, p) => if n < 0 ∨ 12 < n then none else aN s p n.toNat
theorem jb {s : ByteArray} {p k : Nat} (h : aN s p k = none) : ∀ m, aN s p (k + m) = none
 | 0 => h
 | m + 1 => by show (match aN s p (k + m) with | none => none | some (L, q) => _) = none; rw [jb h m]
theorem jc {s : ByteArray} {p k n : Nat} (h : aN s p (k + 1) = none) (hk : k < n) : aN s p n = none := by
 have := jb h (n - (k + 1))
 rwa [show k + 1 + (n - (k + 1)) = n by omega] at this
theorem kr {s : ByteArray} {p q : Nat} {x : St} (h : bK s p = some (x, q)) : p < q ∧ q ≤ s.size := by
 unfold bK at h
 split at h
 ·cases h
 ·rename_i a p1 h1
  split at h
  ·cases h
  ·rename_i b p2 h2
   split at h
   ·cases h
   ·rename_i c p3 h3
    split at h
    ·cases h
    ·rename_i d p4 h4
     have e1 := bg h1
     have e2 := bg h2
     have e3 := bg h3
     have e4 := bg h4
     simp at h
     omega
theorem fM {s : ByteArray} {p : Nat} (hp : p ≤ s.size) : ∀ (k : Nat) {L : List St} {q : Nat}, aN s p k = some (L, q) → q ≤ s.size ∧ L.length = k
 | 0, L, q, h => by simp [aN] at h; obtain ⟨rfl, rfl⟩ := h; exact ⟨hp, rfl⟩
 | k + 1, L, q, h => by
  unfold aN at h
  split at h
  ·cases h
  ·rename_i L' q' h'
   split at h
   ·cases h
   ·rename_i x q2 h2
    have e1 := fM hp k h'
    have e2 := kr h2
    simp at h
    obtain ⟨rfl, rfl⟩ := h
    exact ⟨e2.2, by simp [e1.2]⟩
end
end Go.Proofs.YthoiooefclbecaaGreatDoor
