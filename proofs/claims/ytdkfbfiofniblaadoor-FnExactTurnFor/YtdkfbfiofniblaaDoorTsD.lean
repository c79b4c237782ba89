/- The turns of a list, as they lie in memory. -/
import Derived.Test.YtdkfbfiofniblaaDoorTsA
namespace Go.Proofs.YtdkfbfiofniblaaDoor
open Go.RowKit Go.Sort
set_option linter.unusedVariables false

def tA (L : List T4) (i : Nat) : T4 := L.getD i (0, 0, 0, 0)
theorem flatT_at : ∀ (S : List T4) (k : Nat) (b : T4), S[k]? = some b → ∀ j u, (turn4 b)[j]? = some u → (flatT S)[k * 4 + j]? = some u := by
  intro S
  induction S with
  | nil => intro k b h; simp at h
  | cons x S ih =>
    intro k b h j u hu
    have e : flatT (x :: S) = turn4 x ++ flatT S := by unfold flatT; simp
    have hj : j < 4 := (List.getElem?_eq_some_iff.1 hu).1
    rw [e]
    cases k with
    | zero =>
      simp at h
      subst h
      rw [List.getElem?_append_left (by show _ < 4; omega)]
      simpa using hu
    | succ k =>
      rw [List.getElem?_append_right (by show 4 ≤ _; omega)]
      rw [show (k + 1) * 4 + j - (turn4 x).length = k * 4 + j by show _ - 4 = _; omega]
      exact ih k b (by simpa using h) j u hu
/-- the turns L lie in block g -/
def Turn4s (w : World) (g : Nat) (L : List T4) : Prop := g < w.heap.size ∧ ∀ k, k < L.length → w.cell? ⟨g, k * 4, none⟩ = some (.int .i64 (tA L k).1) ∧ w.cell? ⟨g, k * 4 + 1, none⟩ = some (.int .i64 (tA L k).2.1) ∧ w.cell? ⟨g, k * 4 + 2, none⟩ = some (.int .i64 (tA L k).2.2.1) ∧ w.cell? ⟨g, k * 4 + 3, none⟩ = some (.int .i64 (tA L k).2.2.2)
theorem Turn4s.kept {w w' : World} {g : Nat} {L : List T4} (h : Turn4s w g L) (hB : Below w.heap.size w w') : Turn4s w' g L := by
  refine ⟨Nat.lt_of_lt_of_le h.1 hB.size, fun k hk => ?_⟩
  obtain ⟨h0, h1, h2, h3⟩ := h.2 k hk
  exact ⟨by rw [hB.cell (p := ⟨g, k * 4, none⟩) h.1]; exact h0, by rw [hB.cell (p := ⟨g, k * 4 + 1, none⟩) h.1]; exact h1, by rw [hB.cell (p := ⟨g, k * 4 + 2, none⟩) h.1]; exact h2, by rw [hB.cell (p := ⟨g, k * 4 + 3, none⟩) h.1]; exact h3⟩
theorem turn4s_of {w : World} {B : Nat} {v : Value} {L : List T4} (h : w.ownsRow B 48 4 v L.length (flatT L)) (h0 : 0 < L.length) : ∃ g c, v = .slice (some ⟨g, 0, none⟩) L.length c ∧ B ≤ g ∧ Turn4s w g L := by
  rcases h.2 with ⟨h1, h0'⟩ | ⟨g, cap, cur, hv, hb, hg, hnc, hcm, hcs, htake⟩
  · omega
  · refine ⟨g, cap, hv, hb, (Array.getElem?_eq_some_iff.1 hg).1, fun k hk => ?_⟩
    have hk' : L[k]? = some (tA L k) := by unfold tA; rw [List.getD, List.getElem?_eq_getElem hk]; rfl
    have cl : ∀ j u, (turn4 (tA L k))[j]? = some u → w.cell? ⟨g, k * 4 + j, none⟩ = some u := by
      intro j u hu
      have hj : j < 4 := (List.getElem?_eq_some_iff.1 hu).1
      have e := flatT_at L k _ hk' j u hu
      rw [cell_of_row w g _ cur _ _ hg]
      rw [← htake, List.getElem?_take, if_pos (by omega)] at e
      simpa using e
    exact ⟨cl 0 _ rfl, cl 1 _ rfl, cl 2 _ rfl, cl 3 _ rfl⟩
end Go.Proofs.YtdkfbfiofniblaaDoor
