/- The program's search: namings, walked. -/
import Derived.Test.YtjdehbpgdplolaaDoorIeS
namespace Go.Proofs.YtjdehbpgdplolaaDoor
open Go.RowKit Go.Sort Go.Shelf
set_option linter.unusedVariables false

set_option maxHeartbeats 4000000 in
set_option maxRecDepth 100000 in
theorem namings_any (L : List St) (S : List D3) (ar br : Option Addr) (cr dr : Nat) (w : World) :
    Calls Tryd.prog 25 #[.slice ar L.length cr, .slice br S.length dr] w fun e w' => e = .returned (.func (.func 43) #[] #[.pointer (some ⟨w.heap.size, 0, none⟩), .pointer (some ⟨w.heap.size + 1, 0, none⟩)]) ∧ w'.cell? ⟨w.heap.size, 0, none⟩ = some (.slice ar L.length cr) ∧ w'.cell? ⟨w.heap.size + 1, 0, none⟩ = some (.slice br S.length dr) ∧ Below w.heap.size w w' := by
  go_enter Tryd.func25, Tryd.ntmps25
  go_wp2
  refine bodyPost_ret (v := .func (.func 43) #[] #[.pointer (some ⟨w.heap.size, 0, none⟩), .pointer (some ⟨w.heap.size + 1, 0, none⟩)]) (by simp [results, go_sem]) rfl ⟨rfl, ?_, ?_, below2 w _ _⟩
  · exact cellK5 (by simp) (below1 _ _)
  · have := World.alloc_heap_new (w.alloc (.cells #[.slice ar L.length cr] 30)) (.cells #[.slice br S.length dr] 32)
    rw [World.size_alloc] at this
    exact (box_cell this).1
end Go.Proofs.YtjdehbpgdplolaaDoor
