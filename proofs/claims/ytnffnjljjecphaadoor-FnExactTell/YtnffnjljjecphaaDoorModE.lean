/- What the laws on trackers do with what is answered. -/
import Derived.Test.YtnffnjljjecphaaDoorModD
namespace Go.Proofs.YtnffnjljjecphaaDoor
open Go.RowKit Go.Sort
set_option linter.unusedVariables false

def TkO (w : World) (b : Nat) (v : Value) (lim mode A B C D coast fr code : Int) : Prop := TkAt w b v lim mode A B C D coast fr ∧ w.cell? ⟨b, 9, none⟩ = some (.int .i64 code)
theorem TkO.kept {w w' : World} {b : Nat} {v : Value} {lim mode A B C D coast fr code : Int} (h : TkO w b v lim mode A B C D coast fr code) (hB : Below w.heap.size w w') : TkO w' b v lim mode A B C D coast fr code := ⟨h.1.kept hB, cellK h.2 hB⟩
theorem tkO_new (w : World) (v : Value) (lim mode A B C D coast fr code : Int) (t : TypeId) : TkO (w.alloc (.cells #[v, .int .i64 lim, .int .i64 mode, .int .i64 A, .int .i64 B, .int .i64 C, .int .i64 D, .int .i64 coast, .int .i64 fr, .int .i64 code] t)) w.heap.size v lim mode A B C D coast fr code := by
  refine ⟨⟨?_, ?_, ?_, ?_, ?_, ?_, ?_, ?_, ?_⟩, ?_⟩ <;> simp
theorem cellG {w w' : World} {a : Addr} {v : Value} {row : Option Nat} (h : w.cell? a = some v) (hg : w.grownBy w' row) (hne : some a.block ≠ row) : w'.cell? a = some v := (World.cell?_of_block (hg.block a.block (World.block_lt_of_cell? w a h) hne)).trans h
theorem TkAt.grown {w w' : World} {b : Nat} {v : Value} {lim mode A B C D coast fr : Int} {row : Option Nat} (h : TkAt w b v lim mode A B C D coast fr) (hg : w.grownBy w' row) (hne : some b ≠ row) : TkAt w' b v lim mode A B C D coast fr := by
  obtain ⟨h0, h1, h2, h3, h4, h5, h6, h7, h8⟩ := h
  exact ⟨cellG h0 hg hne, cellG h1 hg hne, cellG h2 hg hne, cellG h3 hg hne, cellG h4 hg hne, cellG h5 hg hne, cellG h6 hg hne, cellG h7 hg hne, cellG h8 hg hne⟩
theorem TkO.grown {w w' : World} {b : Nat} {v : Value} {lim mode A B C D coast fr code : Int} {row : Option Nat} (h : TkO w b v lim mode A B C D coast fr code) (hg : w.grownBy w' row) (hne : some b ≠ row) : TkO w' b v lim mode A B C D coast fr code := ⟨h.1.grown hg hne, cellG h.2 hg hne⟩

end Go.Proofs.YtnffnjljjecphaaDoor
