/- Several texts in one: IeV. -/
import Derived.Test.YtlleafjdgblhcaaGreatDoorQDeskRunOwn18
import Derived.Test.YtlleafjdgblhcaaGreatDoorQDeskRunOwn8
import Derived.Test.YtlleafjdgblhcaaGreatDoorQDeskRunOwn9
namespace Go.Proofs.YtlleafjdgblhcaaGreatDoor
set_option linter.unusedVariables false
set_option linter.unusedSimpArgs false
set_option maxRecDepth 100000
set_option maxHeartbeats 8000000
section
open Go.RowKit Go.Sort
theorem kC (F : List Int → Int → Bool) (A : List Int) : ∀ (r : Nat) (ids l : List Int), l ∈ eh F A r ids → l.length = ids.length + r
 | 0, ids, l, h => by
  simp only [eh, List.mem_singleton] at h
  subst h
  omega
 | r + 1, ids, l, h => by
  simp only [eh, List.mem_append, List.mem_flatMap] at h
  rcases h with ⟨a, _, h⟩ | h
  ·have := kC F A r _ l h
   rw [List.length_append] at this
   simp at this
   omega
  ·have := kC F A r _ l h
   rw [List.length_append] at this
   simp at this
   omega
theorem pw (m : Nat) : ∀ (X : List (List Int)) (g : List Int × Nat), (∀ l ∈ X, l.length ≤ m) → g.1.length ≤ m → (X.foldl de g).1.length ≤ m
 | [], g, _, h => h
 | x :: X, g, hX, h => by
  rw [List.foldl_cons]
  refine pw m X _ (fun l hl => hX l (List.mem_cons_of_mem _ hl)) ?_
  unfold de
  split
  ·exact h
  ·split
   ·exact hX x (List.mem_cons_self ..)
   ·exact h
theorem qa (L : List St) (S : List D3) : (ba L S).length ≤ 6 := by
 by_cases hb : 400 < L.length ∨ 400 < S.length
 ·rw [(nh hb).1]; simp
 ·cases ho : kU L S
  ·rw [(jT hb ho).1]; simp
  ·rw [(ja hb ho).1, (lN L S).1]
   have hp : aU S = true := by unfold kU at ho; simp at ho; exact ho.2
   have h6 := (bK hp).1
   split
   ·refine Nat.le_trans (pw S.length _ _ (fun l hl => ?_) (by simp)) h6
    have := kC _ _ _ _ _ hl
    simp at this
    omega
   ·simp
theorem jb.sliceI {w : World} {t : TypeId} {c lo hi n : Nat} {v : Value} {f : Nat → Value} (h : jb w t c lo hi n v f) : ∃ a k, v = .slice a n k := by
 rcases h with ⟨rfl, a, k, rfl⟩ | ⟨g, k, rfl, _⟩
 ·exact ⟨a, k, rfl⟩
 ·exact ⟨_, k, rfl⟩
theorem zj {w' : World} {B : Nat} {ids : List Int} {cnt code : Int} {e : Ending} (h : BB w' B ids cnt code e) : ∃ a k, e = .returned (.agg #[.slice a ids.length k, .int .i64 cnt, .int .i64 code]) ∧ jb w' 2 1 B w'.heap.size ids.length (.slice a ids.length k) (rQ (fun j => ids.getD j 0) (fun _ => false)) := by
 obtain ⟨v, he, ho⟩ := h
 have hp : jb w' 2 1 B w'.heap.size ids.length v (rQ (fun j => ids.getD j 0) (fun _ => false)) := jb.of ho (fun j h => by
  have h' : j < ids.length := by omega
  show (ids.map (fun z => Value.int .i64 z))[j]? = some (.int .i64 (ids.getD j 0))
  rw [List.getElem?_map, List.getElem?_eq_getElem h', List.getD_eq_getElem?_getD, List.getElem?_eq_getElem h']
  rfl)
 obtain ⟨a, k, rfl⟩ := hp.sliceI
 exact ⟨a, k, he, hp⟩
end
end Go.Proofs.YtlleafjdgblhcaaGreatDoor
