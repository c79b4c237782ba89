/- Turns: the program's and the specification's. -/
import Derived.Test.YtjdehbpgdplolaaDoorTurnB
import Derived.Test.YtjdehbpgdplolaaDoorTurnC
import Derived.OwnWalk
import Derived.Laws.OwnMore
namespace Go.Proofs.YtjdehbpgdplolaaDoor
open Go.RowKit Go.Sort
set_option linter.unusedVariables false

theorem oKept {w w' : World} {B : Nat} {t : TypeId} {v : Value} {n m : Nat} {xs : List Value} (h : w.ownsRow B t m v n xs) (hB : Below w.heap.size w w') : w'.ownsRow B t m v n xs :=
  h.kept (row := none) ⟨hB.os, hB.tape, hB.output, hB.size, fun k hk _ => hB.block k hk⟩ (by cases hv : v.ownBlock <;> simp)
theorem oSlice {w : World} {B : Nat} {t : TypeId} {v : Value} {n m : Nat} {xs : List Value} (h : w.ownsRow B t m v n xs) : ∃ a c, v = .slice a n c := by
  rcases h.2 with ⟨h1, h0⟩ | ⟨g, cap, cur, hv, _⟩
  · exact ⟨none, 0, by rw [h1, h0]⟩
  · exact ⟨_, _, hv⟩
theorem oBelow {B : Nat} {w w1 w2 : World} {v : Value} {t : TypeId} {n m : Nat} {xs : List Value} (h : Below B w w1) (ho : w1.ownsRow B t m v n xs) (hg : w1.grownBy w2 v.ownBlock) (hB : B ≤ w1.heap.size) : Below B w w2 :=
  h.trans ⟨hg.os, hg.tape, hg.output, hg.size, fun k hk => hg.block k (by omega) (fun e => by have := (ho.lt k e.symm).1; omega)⟩
theorem new_cells (w : World) (vs : List Value) (t : TypeId) : ∀ (j : Nat) (u : Value), vs[j]? = some u → (w.alloc (.cells vs.toArray t)).cell? ((⟨w.heap.size, 0, none⟩ : Addr).add j) = some u := by
  intro j u hj
  have e : (⟨w.heap.size, 0, none⟩ : Addr).add j = ⟨w.heap.size, j, none⟩ := by cases j <;> simp [Addr.add]
  rw [e]
  simp [hj]
abbrev T4 := Int × Int × Int × Int
def turn4 (t : T4) : List Value := [.int .i64 t.1, .int .i64 t.2.1, .int .i64 t.2.2.1, .int .i64 t.2.2.2]
def flatT (S : List T4) : List Value := S.flatMap turn4
theorem flatT_app (A B : List T4) : flatT (A ++ B) = flatT A ++ flatT B := by unfold flatT; rw [List.flatMap_append]
theorem flatT_cell {S : List T4} {v : Value} (h : v ∈ flatT S) : v.oneCell' = true := by
  unfold flatT at h
  rw [List.mem_flatMap] at h
  obtain ⟨p, _, hp⟩ := h
  simp [turn4] at hp
  rcases hp with rfl | rfl | rfl | rfl <;> rfl
/-- the turn of the number n, whose digits to the base of five are its parts -/
def tOf (n : Nat) : T4 := ((n : Int) / 125 - 2, (n : Int) / 25 % 5 - 2, (n : Int) / 5 % 5 - 2, (n : Int) % 5 - 2)
def goodT (t : T4) : Bool := rightT t.1 t.2.1 t.2.2.1 t.2.2.2
def turnsTo (k : Nat) : List T4 := ((List.range k).map tOf).filter goodT
theorem turns_len (k : Nat) : (turnsTo k).length ≤ k := by
  have h := List.length_filter_le goodT ((List.range k).map tOf)
  rw [List.length_map, List.length_range] at h
  exact h
theorem turns_snoc (k : Nat) : turnsTo (k + 1) = turnsTo k ++ (if goodT (tOf k) = true then [tOf k] else []) := by
  unfold turnsTo
  rw [List.range_succ, List.map_append, List.filter_append]
  congr 1
  cases h : goodT (tOf k)
  · rw [List.map_singleton, List.filter_cons_of_neg (by simp [h])]; rfl
  · rw [List.map_singleton, List.filter_cons_of_pos h]; rfl
theorem tOf_at (a b c d : Nat) (hb : b < 5) (hc : c < 5) (hd : d < 5) : tOf (a * 125 + b * 25 + c * 5 + d) = ((a : Int) - 2, (b : Int) - 2, (c : Int) - 2, (d : Int) - 2) := by
  unfold tOf
  have e1 : ((a * 125 + b * 25 + c * 5 + d : Nat) : Int) / 125 = a := by omega
  have e2 : ((a * 125 + b * 25 + c * 5 + d : Nat) : Int) / 25 % 5 = b := by omega
  have e3 : ((a * 125 + b * 25 + c * 5 + d : Nat) : Int) / 5 % 5 = c := by omega
  have e4 : ((a * 125 + b * 25 + c * 5 + d : Nat) : Int) % 5 = d := by omega
  rw [e1, e2, e3, e4]
end Go.Proofs.YtjdehbpgdplolaaDoor
