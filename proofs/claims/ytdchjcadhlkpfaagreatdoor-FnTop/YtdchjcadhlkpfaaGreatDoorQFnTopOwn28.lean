/- Several texts in one: ModR. -/
import Derived.Test.YtdchjcadhlkpfaaGreatDoorQFnTopOwn22
import Derived.Test.YtdchjcadhlkpfaaGreatDoorQFnTopOwn27
namespace Go.Proofs.YtdchjcadhlkpfaaGreatDoor
set_option linter.unusedVariables false
set_option linter.unusedSimpArgs false
set_option maxRecDepth 100000
set_option maxHeartbeats 8000000
section
open Go.RowKit Go.Sort
def fs (t : Tk) (g1 g2 g3 g4 : Int) : Bool := ax t && az g1 g2 g3 g4
def gv (t : Tk) (g1 g2 g3 g4 : Int) : Tk := if fs t g1 g2 g3 g4 = true then bE t g1 g2 g3 g4 else dT
def js (t : Tk) (g1 g2 g3 g4 : Int) : Int := if fs t g1 g2 g3 g4 = true then 0 else 1
theorem sI (t : Tk) (g1 g2 g3 g4 : Int) : (bE t g1 g2 g3 g4).L = t.L := by
 unfold bE
 split
 ·rfl
 ·split <;> rfl
theorem ay.off {w : World} {B : Nat} {L : List St} {a : Option Addr} {cap : Nat} (h : ay w B L a cap) {b : Nat} (hne : ∀ x, a = some x → x.block ≠ b) (o : Nat) (y : Value) : ay (w.setCell ⟨b, o, none⟩ y) B L a cap := by
 obtain ⟨h1, h2⟩ := h
 refine ⟨h1, ?_⟩
 rcases h2 with h2 | ⟨g, c', cur, e, hg, hh, r⟩
 ·exact .inl h2
 ·injection e with e1 e2 e3
  exact .inr ⟨g, c', cur, by rw [e1, e2, e3], hg, by rw [Below.heap_setCell w ⟨b, o, none⟩ y g (fun e => hne _ e1 e)]; exact hh, r⟩
theorem iN (T : Array Value) (X : World) (b : Nat) (v : Value) (lim mode A B C D coast fr code : Int) (hT : T.getD 4 undef = .pointer (some ⟨b, 0, none⟩)) (h : TkO X b v lim mode A B C D coast fr code) : (results Tryz.f120 T).run Tryz.prog X = .ok (.agg #[v, .int .i64 lim, .int .i64 mode, .int .i64 A, .int .i64 B, .int .i64 C, .int .i64 D, .int .i64 coast, .int .i64 fr, .int .i64 code]) X := by
 obtain ⟨⟨h0, h1, h2, h3, h4, h5, h6, h7, h8⟩, h9⟩ := h
 simp only [Array.getD_eq_getD_getElem?] at hT
 simp [results, Tryz.results120, go_sem, hT, h0, h1, h2, h3, h4, h5, h6, h7, h8, h9]
end
end Go.Proofs.YtdchjcadhlkpfaaGreatDoor
