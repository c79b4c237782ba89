/- Several texts in one: ModJ. -/
import Derived.Test.YtgiodlllokdcdaaGreatDoorQFnFollowOwn17
import Derived.Test.YtgiodlllokdcdaaGreatDoorQFnFollowOwn18
namespace Go.Proofs.YtgiodlllokdcdaaGreatDoor
set_option linter.unusedVariables false
set_option linter.unusedSimpArgs false
set_option maxRecDepth 100000
set_option maxHeartbeats 8000000
section
open Go.RowKit Go.Sort
theorem jk (T : Array Value) (X : World) (b : Nat) (v : Value) (lim mode A B C D coast fr code : Int) (hT : T.getD 4 undef = .pointer (some ⟨b, 0, none⟩)) (h : TkO X b v lim mode A B C D coast fr code) : (results Tryz.f17 T).run Tryz.prog X = .ok (.agg #[v, .int .i64 lim, .int .i64 mode, .int .i64 A, .int .i64 B, .int .i64 C, .int .i64 D, .int .i64 coast, .int .i64 fr, .int .i64 code]) X := by
 obtain ⟨⟨h0, h1, h2, h3, h4, h5, h6, h7, h8⟩, h9⟩ := h
 simp only [Array.getD_eq_getD_getElem?] at hT
 simp [results, Tryz.results17, go_sem, hT, h0, h1, h2, h3, h4, h5, h6, h7, h8, h9]
def qn (w' : World) (B : Nat) (t : Tk) (code : Int) (e : Ending) : Prop := ∃ a cap, e = .returned (.agg #[.slice a t.L.length cap, .int .i64 t.lim, .int .i64 t.mode, .int .i64 t.A, .int .i64 t.B, .int .i64 t.C, .int .i64 t.D, .int .i64 t.coast, .int .i64 t.fr, .int .i64 code]) ∧ ay w' B t.L a cap
theorem qt (w : World) (B : Nat) : ay w B [] none 0 := ⟨rfl, .inl ⟨rfl, rfl⟩⟩
theorem bW (w : World) (B : Nat) (code : Int) : qn w B fA code (.returned (.agg #[.slice none 0 0, .int .i64 0, .int .i64 0, .int .i64 0, .int .i64 0, .int .i64 0, .int .i64 0, .int .i64 0, .int .i64 0, .int .i64 code])) := ⟨none, 0, rfl, qt w B⟩
theorem TkO.far {w : World} {b : Nat} {v : Value} {lim mode A B C D coast fr code : Int} (h : TkO w b v lim mode A B C D coast fr code) {b' : Nat} (hne : b ≠ b') (o : Nat) (x : Value) : TkO (w.setCell ⟨b', o, none⟩ x) b v lim mode A B C D coast fr code := ⟨h.1.far hne o x, by rw [World.cell?_setCell_far _ _ _ _ (Ne.symm hne)]; exact h.2⟩
theorem TkO.lt {w : World} {b : Nat} {v : Value} {lim mode A B C D coast fr code : Int} (h : TkO w b v lim mode A B C D coast fr code) : b < w.heap.size := h.1.lt
end
end Go.Proofs.YtgiodlllokdcdaaGreatDoor
