/- pairsIn: the program's. -/
import Derived.Test.YtjdehbpgdplolaaDoorPairE
namespace Go.Proofs.YtjdehbpgdplolaaDoor
open Go.RowKit Go.Sort
set_option linter.unusedVariables false

def spA (S : List Sp) (i : Nat) : Sp := S.getD i ((0, 0), (0, 0, 0), (0, 0, 0))
/-- the span s lies at b, from o on -/
def SpOff (w : World) (b o : Nat) (s : Sp) : Prop := w.cell? ⟨b, o, none⟩ = some (.int .i64 s.1.1) ∧ w.cell? ⟨b, o + 1, none⟩ = some (.int .i64 s.1.2) ∧ w.cell? ⟨b, o + 2, none⟩ = some (.int .i64 s.2.1.1) ∧ w.cell? ⟨b, o + 3, none⟩ = some (.int .i64 s.2.1.2.1) ∧ w.cell? ⟨b, o + 4, none⟩ = some (.int .i64 s.2.1.2.2) ∧ w.cell? ⟨b, o + 5, none⟩ = some (.int .i64 s.2.2.1) ∧ w.cell? ⟨b, o + 6, none⟩ = some (.int .i64 s.2.2.2.1) ∧ w.cell? ⟨b, o + 7, none⟩ = some (.int .i64 s.2.2.2.2)
theorem SpOff.kept {w w' : World} {b o : Nat} {s : Sp} (h : SpOff w b o s) (hB : Below w.heap.size w w') : SpOff w' b o s := by
  have hb : b < w.heap.size := World.block_lt_of_cell? w _ h.1
  obtain ⟨h0, h1, h2, h3, h4, h5, h6, h7⟩ := h
  exact ⟨by rw [hB.cell (p := ⟨b, o, none⟩) hb]; exact h0, by rw [hB.cell (p := ⟨b, o + 1, none⟩) hb]; exact h1, by rw [hB.cell (p := ⟨b, o + 2, none⟩) hb]; exact h2, by rw [hB.cell (p := ⟨b, o + 3, none⟩) hb]; exact h3, by rw [hB.cell (p := ⟨b, o + 4, none⟩) hb]; exact h4, by rw [hB.cell (p := ⟨b, o + 5, none⟩) hb]; exact h5, by rw [hB.cell (p := ⟨b, o + 6, none⟩) hb]; exact h6, by rw [hB.cell (p := ⟨b, o + 7, none⟩) hb]; exact h7⟩
theorem fst_snoc (S : List Sp) (k : Nat) (h : k < S.length) : (S.take (k + 1)).map Prod.fst = (S.take k).map Prod.fst ++ [(spA S k).1] := by
  rw [List.take_succ_eq_append_getElem h, List.map_append]
  congr 2
  unfold spA
  rw [List.getD, List.getElem?_eq_getElem h]
  rfl
theorem ownKeptP {w w' : World} {B : Nat} {t : TypeId} {v : Value} {n m : Nat} {xs : List Value} (h : w.ownsRow B t m v n xs) (hB : Below w.heap.size w w') : w'.ownsRow B t m v n xs :=
  h.kept (row := none) ⟨hB.os, hB.tape, hB.output, hB.size, fun k hk _ => hB.block k hk⟩ (by cases hv : v.ownBlock <;> simp)
theorem grownOwnP {B : Nat} {w w1 w2 : World} {v : Value} {t : TypeId} {n m : Nat} {xs : List Value} (h : Below B w w1) (ho : w1.ownsRow B t m v n xs) (hg : w1.grownBy w2 v.ownBlock) (hB : B ≤ w1.heap.size) : Below B w w2 :=
  h.trans ⟨hg.os, hg.tape, hg.output, hg.size, fun k hk => hg.block k (by omega) (fun e => by have := (ho.lt k e.symm).1; omega)⟩

end Go.Proofs.YtjdehbpgdplolaaDoor
