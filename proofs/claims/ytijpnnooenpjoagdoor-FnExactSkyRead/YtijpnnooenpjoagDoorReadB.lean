/- A list of stars read, the program's. -/
import Derived.Test.YtijpnnooenpjoagDoorReadA
import Derived.Test.YtijpnnooenpjoagDoorSkyG
namespace Go.Proofs.YtijpnnooenpjoagDoor
open Go.RowKit
set_option linter.unusedVariables false

def readTo (s : ByteArray) (p : Nat) : Nat → Option (List St × Nat)
  | 0 => some ([], p)
  | k + 1 => match readTo s p k with
    | none => none
    | some (L, q) => match read4 s q with
      | none => none
      | some (x, q') => some (L ++ [x], q')
def readAll (s : ByteArray) : Option (List St × Nat) := match scanN s 0 with
  | none => none
  | some (n, p) => if n < 0 ∨ 12 < n then none else readTo s p n.toNat
theorem readTo_none {s : ByteArray} {p k : Nat} (h : readTo s p k = none) : ∀ m, readTo s p (k + m) = none
  | 0 => h
  | m + 1 => by show (match readTo s p (k + m) with | none => none | some (L, q) => _) = none; rw [readTo_none h m]
theorem readTo_stop {s : ByteArray} {p k n : Nat} (h : readTo s p (k + 1) = none) (hk : k < n) : readTo s p n = none := by
  have := readTo_none h (n - (k + 1))
  rwa [show k + 1 + (n - (k + 1)) = n by omega] at this
theorem read4_le {s : ByteArray} {p q : Nat} {x : St} (h : read4 s p = some (x, q)) : p < q ∧ q ≤ s.size := by
  unfold read4 at h
  split at h
  · cases h
  · rename_i a p1 h1
    split at h
    · cases h
    · rename_i b p2 h2
      split at h
      · cases h
      · rename_i c p3 h3
        split at h
        · cases h
        · rename_i d p4 h4
          have e1 := scanN_le h1
          have e2 := scanN_le h2
          have e3 := scanN_le h3
          have e4 := scanN_le h4
          simp at h
          omega
theorem readTo_le {s : ByteArray} {p : Nat} (hp : p ≤ s.size) : ∀ (k : Nat) {L : List St} {q : Nat}, readTo s p k = some (L, q) → q ≤ s.size ∧ L.length = k
  | 0, L, q, h => by simp [readTo] at h; obtain ⟨rfl, rfl⟩ := h; exact ⟨hp, rfl⟩
  | k + 1, L, q, h => by
    unfold readTo at h
    split at h
    · cases h
    · rename_i L' q' h'
      split at h
      · cases h
      · rename_i x q2 h2
        have e1 := readTo_le hp k h'
        have e2 := read4_le h2
        simp at h
        obtain ⟨rfl, rfl⟩ := h
        exact ⟨e2.2, by simp [e1.2]⟩
def flatS (L : List St) : List Value := L.flatMap stC
theorem flatS_len (L : List St) : (flatS L).length = L.length * 4 := by
  unfold flatS
  induction L with
  | nil => rfl
  | cons x l ih => simp [List.flatMap_cons, stC] at *; omega
theorem flatS_at (L : List St) : ∀ (i : Nat), i < L.length → (flatS L)[i * 4]? = some (.int .i64 (stA L i).1) ∧ (flatS L)[i * 4 + 1]? = some (.int .i64 (stA L i).2.1) ∧ (flatS L)[i * 4 + 2]? = some (.int .i64 (stA L i).2.2.1) ∧ (flatS L)[i * 4 + 3]? = some (.int .i64 (stA L i).2.2.2) := by
  induction L with
  | nil => intro i hi; simp at hi
  | cons x l ih =>
    intro i hi
    match i with
    | 0 => exact ⟨rfl, rfl, rfl, rfl⟩
    | i + 1 =>
      have h := ih i (by simpa using hi)
      have e : ∀ r, (flatS (x :: l))[(i + 1) * 4 + r]? = (flatS l)[i * 4 + r]? := fun r => by
        rw [show (i + 1) * 4 + r = (i * 4 + r) + 4 by omega]
        rfl
      have e2 : stA (x :: l) (i + 1) = stA l i := rfl
      rw [e2]
      exact ⟨by have := e 0; simp only [Nat.add_zero] at this; rw [this]; exact h.1, by rw [e 1]; exact h.2.1, by rw [e 2]; exact h.2.2.1, by rw [e 3]; exact h.2.2.2⟩
/-- a row that is owned holds its stars -/
theorem own_stars {w : World} {B : Nat} {v : Value} {L : List St} (h : w.ownsRow B 60 4 v L.length (flatS L)) : ∃ a cap, v = .slice a L.length cap ∧ L.length ≤ cap ∧ cap ≤ maxLen ∧ Stars w a L L.length := by
  rcases h.2 with ⟨h1, h0⟩ | ⟨g, cap, cur, hv, hb, hg, hnc, hcm, hcs, htake⟩
  · exact ⟨none, 0, by rw [h1, h0], by omega, Nat.zero_le _, .inl h0⟩
  · refine ⟨_, cap, hv, hnc, hcm, .inr ⟨g, 0, rfl, (Array.getElem?_eq_some_iff.1 hg).1, fun i hi => ?_⟩⟩
    have hc : ∀ j, j < L.length * 4 → w.cell? ⟨g, j, none⟩ = (flatS L)[j]? := fun j hj => by
      rw [cell_of_row w g j cur _ _ hg, ← htake, List.getElem?_take, if_pos hj]
      simp
    obtain ⟨e0, e1, e2, e3⟩ := flatS_at L i hi
    rw [Nat.zero_add]
    exact ⟨by rw [hc _ (by omega)]; exact e0, by rw [hc _ (by omega)]; exact e1, by rw [hc _ (by omega)]; exact e2, by rw [hc _ (by omega)]; exact e3⟩
end Go.Proofs.YtijpnnooenpjoagDoor
