/- A list of stars copied into memory of its own, and two lists held against each other. -/
import Derived.Test.YtofpjlhoppofdaaGreatDoorSkyF
namespace Go.Proofs.YtofpjlhoppofdaaGreatDoor
open Go.RowKit Go.Sort
set_option linter.unusedVariables false

/-- block b is a row of n stars, none frozen, of which the first k are L's -/
def OwnS (w : World) (b n : Nat) (L : List St) (k : Nat) : Prop := ∃ cur : Array Value, w.heap[b]? = some (.cells cur 78 (0, 0)) ∧ cur.size = n * 4 ∧
  ∀ j, j < k → cur[j * 4]? = some (.int .i64 (stA L j).1) ∧ cur[j * 4 + 1]? = some (.int .i64 (stA L j).2.1) ∧ cur[j * 4 + 2]? = some (.int .i64 (stA L j).2.2.1) ∧ cur[j * 4 + 3]? = some (.int .i64 (stA L j).2.2.2)
theorem OwnS.lt {w : World} {b n k : Nat} {L : List St} (h : OwnS w b n L k) : b < w.heap.size := by
  obtain ⟨cur, hc, _⟩ := h
  exact (Array.getElem?_eq_some_iff.1 hc).1
theorem OwnS.kept {w w' : World} {b n k : Nat} {L : List St} (h : OwnS w b n L k) (hB : Below w.heap.size w w') : OwnS w' b n L k := by
  have hl := h.lt
  obtain ⟨cur, hc, r⟩ := h
  exact ⟨cur, by rw [hB.block b hl]; exact hc, r⟩
theorem OwnS.stars {w : World} {b n k : Nat} {L : List St} (h : OwnS w b n L k) : Stars w (some ⟨b, 0, none⟩) L k := by
  have hl := h.lt
  obtain ⟨cur, hc, _, hs⟩ := h
  refine .inr ⟨b, 0, rfl, hl, fun i hi => ?_⟩
  obtain ⟨h0, h1, h2, h3⟩ := hs i hi
  rw [Nat.zero_add]
  exact ⟨by rw [cell_of_row w b _ cur _ _ hc]; exact h0, by rw [cell_of_row w b _ cur _ _ hc]; exact h1, by rw [cell_of_row w b _ cur _ _ hc]; exact h2, by rw [cell_of_row w b _ cur _ _ hc]; exact h3⟩
theorem OwnS.old {w : World} {b n k i : Nat} {L : List St} (h : OwnS w b n L k) (hi : i < n * 4) : ∃ v, w.cell? ⟨b, i, none⟩ = some v := by
  obtain ⟨cur, hc, hn, _⟩ := h
  rw [cell_of_row w b _ cur _ _ hc]
  exact ⟨cur[i], Array.getElem?_eq_getElem (by omega)⟩
theorem OwnS.free {w : World} {b n k : Nat} {L : List St} (h : OwnS w b n L k) (i : Nat) : w.frozen? ⟨b, i, none⟩ = false := by
  obtain ⟨cur, hc, _⟩ := h
  exact frozen_of_row w b i cur _ hc
def set4 (w : World) (b o : Nat) (s : St) : World := (((w.setCell ⟨b, o, none⟩ (.int .i64 s.1)).setCell ⟨b, o + 1, none⟩ (.int .i64 s.2.1)).setCell ⟨b, o + 2, none⟩ (.int .i64 s.2.2.1)).setCell ⟨b, o + 3, none⟩ (.int .i64 s.2.2.2)
theorem OwnS.step {w : World} {b n k : Nat} {L : List St} (h : OwnS w b n L k) (hk : k < n) : OwnS (set4 w b (k * 4) (stA L k)) b n L (k + 1) := by
  obtain ⟨cur, hc, hn, hs⟩ := h
  have e1 := heap_setCell_same w b (k * 4) cur _ (.int .i64 (stA L k).1) hc
  have e2 := heap_setCell_same _ b (k * 4 + 1) _ _ (.int .i64 (stA L k).2.1) e1
  have e3 := heap_setCell_same _ b (k * 4 + 2) _ _ (.int .i64 (stA L k).2.2.1) e2
  have e4 := heap_setCell_same _ b (k * 4 + 3) _ _ (.int .i64 (stA L k).2.2.2) e3
  refine ⟨_, e4, by simpa using hn, fun j hj => ?_⟩
  by_cases e : j = k
  · subst e
    refine ⟨?_, ?_, ?_, ?_⟩ <;> simp [Array.getElem?_setIfInBounds] <;> omega
  · obtain ⟨h0, h1, h2, h3⟩ := hs j (by omega)
    refine ⟨?_, ?_, ?_, ?_⟩
    · simp only [Array.getElem?_setIfInBounds]
      rw [if_neg (by omega), if_neg (by omega), if_neg (by omega), if_neg (by omega)]; exact h0
    · simp only [Array.getElem?_setIfInBounds]
      rw [if_neg (by omega), if_neg (by omega), if_neg (by omega), if_neg (by omega)]; exact h1
    · simp only [Array.getElem?_setIfInBounds]
      rw [if_neg (by omega), if_neg (by omega), if_neg (by omega), if_neg (by omega)]; exact h2
    · simp only [Array.getElem?_setIfInBounds]
      rw [if_neg (by omega), if_neg (by omega), if_neg (by omega), if_neg (by omega)]; exact h3
theorem belowSet4 {B : Nat} {w w1 : World} {b o : Nat} {s : St} (h : Below B w w1) (hb : B ≤ b) : Below B w (set4 w1 b o s) := (((h.setCell hb _).setCell hb _).setCell hb _).setCell hb _

theorem info_star : (Tryz.prog.info? 78).map (fun i => (i.zero, i.size, i.bytes)) = some (some (.agg #[.int .i64 0, .int .i64 0, .int .i64 0, .int .i64 0]), 4, 32) := by kernel_rfl
theorem own_made {w w' : World} {B b n : Nat} {L : List St} {xs : List Value} (h : w'.ownsRow B 78 4 (.slice (some ⟨b, 0, none⟩) n n) n xs) : OwnS w' b n L 0 := by
  rcases h.2 with ⟨h', _⟩ | ⟨g, cap, cur, hv, _, hg, _, _, hcs, _⟩
  · simp at h'
  · simp only [Value.slice.injEq, Option.some.injEq, Addr.mk.injEq, and_true, true_and] at hv
    obtain ⟨rfl, rfl⟩ := hv
    exact ⟨cur, hg, hcs, fun j hj => absurd hj (Nat.not_lt_zero _)⟩

theorem below_grownNone' {w w' : World} (h : w.grownBy w' none) : Below w.heap.size w w' := ⟨h.os, h.tape, h.output, h.size, fun k hk => h.block k hk (by simp)⟩

end Go.Proofs.YtofpjlhoppofdaaGreatDoor
