/- Several texts in one: L7A. -/
import Derived.Test.YteoonaanoenjiaaGreatDoorL14
import Derived.Test.YteoonaanoenjiaaGreatDoorL17
namespace Go.Proofs.YteoonaanoenjiaaGreatDoor
set_option linter.unusedVariables false
set_option linter.unusedSimpArgs false
set_option maxRecDepth 100000
set_option maxHeartbeats 8000000
section
open Go.RowKit Go.Sort
def ij(w:World)(a:Option Addr)(ids:List Int)(n:Nat):Prop:=n=0∨∃b o,a=some ⟨b,o,none⟩∧b<w.heap.size∧∀i,i<n→w.cell? ⟨b,o+i,none⟩=some (.int .i64 (ids.getD i 0))
variable {w:World}
theorem ij.kept{w':World}{a:Option Addr}{L:List Int}{n:Nat}(h:ij w a L n)(hB:Below w.heap.size w w'):ij w' a L n:=by
 rcases h with h | ⟨b,o,ha,hb,hc⟩
 ·exact .inl h
 ·exact .inr ⟨b,o,ha,Nat.lt_of_lt_of_le hb hB.size,fun i hi=>by rw[hB.cell (p:=⟨b,o+i,none⟩) hb];exact hc i hi⟩
def sh(ids:List Int)(j:Nat):Value:=.int .i64 (ids.getD j 0)
theorem nN{g n:Nat}{ids:List Int}(h:bI w 2 g (n*1) (sh ids)):ij w (some ⟨g,0,none⟩) ids n:=
 .inr ⟨g,0,rfl,h.lt,fun i hi=>by rw[Nat.zero_add];exact h.cell (by omega)⟩
end
end Go.Proofs.YteoonaanoenjiaaGreatDoor
