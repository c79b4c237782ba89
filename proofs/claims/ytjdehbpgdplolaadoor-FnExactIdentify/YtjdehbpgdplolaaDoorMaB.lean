/- MatchAt: the specification's. -/
import Derived.Test.YtjdehbpgdplolaaDoorMaA
import Derived.Test.YtjdehbpgdplolaaDoorIdB
import Derived.Test.YtjdehbpgdplolaaDoorSkyE
import Derived.Test.YtjdehbpgdplolaaDoorTurnB
import Derived.Test.YtjdehbpgdplolaaDoorTsA
namespace Go.Proofs.YtjdehbpgdplolaaDoor
open Go.RowKit Go.Sort
set_option linter.unusedVariables false

def intL (xs : List Int) : List Value := xs.map (fun z => .int .i64 z)
theorem intL_cell {S : List Int} {v : Value} (h : v ∈ intL S) : v.oneCell' = true := by
  unfold intL at h
  rw [List.mem_map] at h
  obtain ⟨p, _, rfl⟩ := h
  rfl
theorem ownI_none (w : World) (B : Nat) (h : B ≤ w.heap.size) : (w.alloc (.cells #[] 2)).ownsRow B 2 1 (.slice (some ⟨w.heap.size, 0, none⟩) 0 0) 0 (intL []) :=
  ⟨rfl, .inr ⟨_, 0, #[], rfl, h, Array.getElem?_push_size, Nat.le_refl _, Nat.zero_le _, rfl, rfl⟩⟩
theorem oLower {w : World} {B B' n m : Nat} {t : TypeId} {v : Value} {xs : List Value} (h : w.ownsRow B t m v n xs) (hb : B' ≤ B) : w.ownsRow B' t m v n xs := by
  obtain ⟨h1, h2⟩ := h
  refine ⟨h1, ?_⟩
  rcases h2 with h2 | ⟨g, cap, cur, e, hg, r⟩
  · exact .inl h2
  · exact .inr ⟨g, cap, cur, e, by omega, r⟩
/-- how many of the first k stars are brought to v -/
def hitsTo (L : List St) (a b c d : Int) (v : D3) : Nat → Nat
  | 0 => 0
  | k + 1 => hitsTo L a b c d v k + if sameD v (apD a b c d (stA L k).2) = true then 1 else 0
/-- how many stars are brought to the first i spots -/
def hitsOf (L : List St) (a b c d : Int) (S : List D3) (n : Nat) : Nat → Nat
  | 0 => 0
  | i + 1 => hitsOf L a b c d S n i + hitsTo L a b c d (vA S i) n
theorem hitsTo_le (L : List St) (a b c d : Int) (v : D3) : ∀ k, hitsTo L a b c d v k ≤ k
  | 0 => Nat.le_refl _
  | k + 1 => by unfold hitsTo; have := hitsTo_le L a b c d v k; split <;> omega
theorem hitsOf_le (L : List St) (a b c d : Int) (S : List D3) (n : Nat) : ∀ i, hitsOf L a b c d S n i ≤ i * n
  | 0 => Nat.zero_le _
  | i + 1 => by unfold hitsOf; have := hitsOf_le L a b c d S n i; have := hitsTo_le L a b c d (vA S i) n; rw [Nat.succ_mul]; omega
def idsL (L : List St) (a b c d : Int) (S : List D3) : List Int := S.map (fun v => idTo L a b c d v L.length)
theorem ids_snoc (L : List St) (a b c d : Int) (S : List D3) (i : Nat) (hi : i < S.length) : idsL L a b c d (S.take (i + 1)) = idsL L a b c d (S.take i) ++ [idTo L a b c d (vA S i) L.length] := by
  have e : S.take (i + 1) = S.take i ++ [vA S i] := by
    rw [List.take_succ_eq_append_getElem hi]
    congr 2
    unfold vA
    rw [List.getD_eq_getElem?_getD, List.getElem?_eq_getElem hi]
    rfl
  unfold idsL
  rw [e, List.map_append]
  rfl
/-- the specification's l02Same, of directions of parts to a million -/
theorem l02Same_within (p q : D3) (w : World) (hp : withinB 1000000 p.1 p.2.1 p.2.2 = true) (hq : withinB 1000000 q.1 q.2.1 q.2.2 = true) :
    Calls Tryd.prog 36 #[.agg #[.int .i64 p.1, .int .i64 p.2.1, .int .i64 p.2.2], .agg #[.int .i64 q.1, .int .i64 q.2.1, .int .i64 q.2.2]] w fun e w' => e = .returned (.bool (sameD q p)) ∧ Below w.heap.size w w' := by
  refine (l02Same_any _ _ _ _ _ _ w).mono fun e w' h => ?_
  have h2 := same_within hp hq
  rw [sameD_comm]
  unfold sameD
  rw [← h2]
  exact h
theorem wide_million {x y z : Int} (h : wideB x y z = true) : withinB 1000000 x y z = true := by
  have h2 := (rightB_iff.1 (wide_iff h).1).1
  rw [withinB_iff]
  exact h2
end Go.Proofs.YtjdehbpgdplolaaDoor
