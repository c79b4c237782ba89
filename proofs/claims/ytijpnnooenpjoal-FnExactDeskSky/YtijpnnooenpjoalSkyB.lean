/- Stars in memory; whether one of them is the same way as a direction. -/
import Derived.Test.YtijpnnooenpjoalSkyA
import Derived.Test.YtijpnnooenpjoalSkyMath
import Derived.Test.YtijpnnooenpjoalVecG
import Derived.Test.YtijpnnooenpjoalVecH
import Derived.Test.YtijpnnooenpjoalVecI
namespace Go.Proofs.Ytijpnnooenpjoal
open Go.RowKit
set_option linter.unusedVariables false

def StarAt (w : World) (b o : Nat) (s : St) : Prop := w.cell? ⟨b, o, none⟩ = some (.int .i64 s.1) ∧ w.cell? ⟨b, o + 1, none⟩ = some (.int .i64 s.2.1) ∧ w.cell? ⟨b, o + 2, none⟩ = some (.int .i64 s.2.2.1) ∧ w.cell? ⟨b, o + 3, none⟩ = some (.int .i64 s.2.2.2)
/-- the first n stars of L lie at a -/
def Stars (w : World) (a : Option Addr) (L : List St) (n : Nat) : Prop := n = 0 ∨ ∃ b o, a = some ⟨b, o, none⟩ ∧ b < w.heap.size ∧ ∀ i, i < n → StarAt w b (o + i * 4) (stA L i)
theorem StarAt.kept {w w' : World} {b o : Nat} {s : St} (h : StarAt w b o s) (hb : b < w.heap.size) (hB : Below w.heap.size w w') : StarAt w' b o s := by
  obtain ⟨h0, h1, h2, h3⟩ := h
  exact ⟨by rw [hB.cell (p := ⟨b, o, none⟩) hb]; exact h0, by rw [hB.cell (p := ⟨b, o + 1, none⟩) hb]; exact h1, by rw [hB.cell (p := ⟨b, o + 2, none⟩) hb]; exact h2, by rw [hB.cell (p := ⟨b, o + 3, none⟩) hb]; exact h3⟩
theorem Stars.kept {w w' : World} {a : Option Addr} {L : List St} {n : Nat} (h : Stars w a L n) (hB : Below w.heap.size w w') : Stars w' a L n := by
  rcases h with h | ⟨b, o, ha, hb, hc⟩
  · exact .inl h
  · exact .inr ⟨b, o, ha, Nat.lt_of_lt_of_le hb hB.size, fun i hi => (hc i hi).kept hb hB⟩
theorem vlt {w : World} {b : Nat} {x y z : Int} (h : VecAt w b x y z) : b < w.heap.size := World.block_lt_of_cell? w _ h.1
theorem Stars.less {w : World} {a : Option Addr} {L : List St} {n m : Nat} (h : Stars w a L n) (hm : m ≤ n) : Stars w a L m := by
  rcases h with h | ⟨b, o, ha, hb, hc⟩
  · exact .inl (by omega)
  · exact .inr ⟨b, o, ha, hb, fun i hi => hc i (by omega)⟩

end Go.Proofs.Ytijpnnooenpjoal
