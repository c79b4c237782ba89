/- Several texts in one: SeenB. -/
import Derived.Test.YtoakkmjcbnfljaaGreatDoorQFnIdentOwn12
namespace Go.Proofs.YtoakkmjcbnfljaaGreatDoor
set_option linter.unusedVariables false
set_option linter.unusedSimpArgs false
set_option maxRecDepth 100000
set_option maxHeartbeats 8000000
section
open Go.RowKit Go.Sort
theorem nk {w w' : World} (h : Below w.heap.size w w') : w.grownBy w' none := ⟨h.os, h.tape, h.output, h.size, fun k hk _ => h.block k hk⟩
theorem qB {w w' : World} {B : Nat} {t : TypeId} {v : Value} {n m : Nat} {xs : List Value} (h : w.ownsRow B t m v n xs) (hB : Below w.heap.size w w') : w'.ownsRow B t m v n xs :=
 h.kept (nk hB) (by cases hv : v.ownBlock <;> simp)
theorem aP.grownW {w w' : World} {b : Nat} {p q r s : Int} {row : Option Nat} (h : aP w b p q r s) (hg : w.grownBy w' row) (hne : some b ≠ row) : aP w' b p q r s := by
 obtain ⟨h0, h1, h2, h3⟩ := h
 exact ⟨hg.cell h0 hne, hg.cell h1 hne, hg.cell h2 hne, hg.cell h3 hne⟩
end
end Go.Proofs.YtoakkmjcbnfljaaGreatDoor
