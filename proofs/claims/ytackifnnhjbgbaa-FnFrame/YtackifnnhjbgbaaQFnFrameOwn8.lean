/- Several texts in one: FfD. -/
import Derived.Test.YtackifnnhjbgbaaQFnFrameOwn4
namespace Go.Proofs.Ytackifnnhjbgbaa
set_option linter.unusedVariables false
set_option linter.unusedSimpArgs false
set_option maxRecDepth 100000
set_option maxHeartbeats 8000000
section
open Go.RowKit
def blA (S : List Bl) (i : Nat) : Bl := S.getD i ⟨0, 0, 0, 0, false⟩
theorem fO : ∀ (S : List Bl) (i q : Nat), i < S.length → q < 5 → (ba S)[i * 5 + q]? = (aZ (blA S i))[q]?
 | [], i, _, h, _ => absurd h (Nat.not_lt_zero _)
 | x :: S, 0, q, _, hq => by
  show (aZ x ++ ba S)[0 * 5 + q]? = (aZ x)[q]?
  rw [Nat.zero_mul, Nat.zero_add, List.getElem?_append_left (by show q < 5; exact hq)]
 | x :: S, i + 1, q, h, hq => by
  have ih := fO S i q (by simpa using h) hq
  show (aZ x ++ ba S)[(i + 1) * 5 + q]? = (aZ (blA S i))[q]?
  rw [List.getElem?_append_right (by show 5 ≤ (i + 1) * 5 + q; omega), show (i + 1) * 5 + q - (aZ x).length = i * 5 + q by show (i + 1) * 5 + q - 5 = i * 5 + q; omega]
  exact ih
def BlR (w : World) (a : Option Addr) (S : List Bl) : Prop := S.length = 0 ∨ ∃ b, a = some ⟨b, 0, none⟩ ∧ b < w.heap.size ∧ ∀ i, i < S.length → ∀ q v, (aZ (blA S i))[q]? = some v → w.cell? ⟨b, i * 5 + q, none⟩ = some v
theorem BlR.kept {w w' : World} {a : Option Addr} {S : List Bl} (h : BlR w a S) (hB : Below w.heap.size w w') : BlR w' a S := by
 rcases h with h | ⟨b, ha, hb, hc⟩
 ·exact .inl h
 ·exact .inr ⟨b, ha, Nat.lt_of_lt_of_le hb hB.size, fun i hi q v hv => by rw [hB.cell (p := ⟨b, i * 5 + q, none⟩) hb]; exact hc i hi q v hv⟩
theorem fm {w : World} {B : Nat} {a : Option Addr} {c : Nat} {S : List Bl} (h : w.ownsRow B 44 5 (.slice a S.length c) S.length (ba S)) : BlR w a S := by
 rcases h.2 with ⟨_, h0⟩ | ⟨g, cap, cur, hv, hb, hg, h1, h2, h3, h4⟩
 ·exact .inl h0
 ·injection hv with e1 e2 e3
  subst e1 e3
  refine .inr ⟨g, rfl, (Array.getElem?_eq_some_iff.1 hg).1, fun i hi q v hq => ?_⟩
  have hq5 : q < 5 := (List.getElem?_eq_some_iff.1 hq).1
  rw [World.ownsRow.cellAt h (i * 5 + q) (by omega), fO S i q hi hq5, hq]
end
end Go.Proofs.Ytackifnnhjbgbaa
