/- Several texts in one: ModG. -/
import Derived.Test.YtoakkmjcbnfljaaGreatDoorQFnIdentOwn22
namespace Go.Proofs.YtoakkmjcbnfljaaGreatDoor
set_option linter.unusedVariables false
set_option linter.unusedSimpArgs false
set_option maxRecDepth 100000
set_option maxHeartbeats 8000000
section
open Go.RowKit Go.Sort
theorem jv (w : World) (B : Nat) (h : B ≤ w.heap.size) : (w.alloc (.cells #[] 69)).ownsRow B 69 4 (.slice (some ⟨w.heap.size, 0, none⟩) 0 0) 0 [] :=
 ⟨rfl, .inr ⟨_, 0, #[], rfl, h, Array.getElem?_push_size, Nat.le_refl _, Nat.zero_le _, rfl, rfl⟩⟩
theorem fC {L : List St} {u : Value} (h : u ∈ aV L) : u.oneCell' = true := by
 unfold aV at h
 rw [List.mem_flatMap] at h
 obtain ⟨s, _, hs⟩ := h
 simp [stC] at hs
 rcases hs with rfl | rfl | rfl | rfl <;> rfl
theorem pj {w : World} {b o : Nat} {L : List St} (h : aJ w (some ⟨b, o, none⟩) L L.length) (j : Nat) (u : Value) (hj : (aV L)[j]? = some u) : w.cell? ((⟨b, o, none⟩ : Addr).add j) = some u := by
 have hlt : j < L.length * 4 := by
  have := (List.getElem?_eq_some_iff.1 hj).1
  rw [eM] at this
  exact this
 have hA : (⟨b, o, none⟩ : Addr).add j = ⟨b, o + j, none⟩ := by unfold Addr.add; split <;> simp_all
 rw [hA]
 rcases h with h | ⟨b', o', e, _, hc⟩
 ·omega
 ·simp only [Option.some.injEq, Addr.mk.injEq, and_true] at e
  obtain ⟨rfl, rfl⟩ := e
  obtain ⟨e0, e1, e2, e3⟩ := jk L (j / 4) (by omega)
  obtain ⟨c0, c1, c2, c3⟩ := hc (j / 4) (by omega)
  have h4 : j = j / 4 * 4 ∨ j = j / 4 * 4 + 1 ∨ j = j / 4 * 4 + 2 ∨ j = j / 4 * 4 + 3 := by omega
  rcases h4 with h4 | h4 | h4 | h4
  ·rw [h4, e0] at hj; rw [h4, c0]; exact hj
  ·rw [h4, e1] at hj; rw [h4, ← Nat.add_assoc, c1]; exact hj
  ·rw [h4, e2] at hj; rw [h4, ← Nat.add_assoc, c2]; exact hj
  ·rw [h4, e3] at hj; rw [h4, ← Nat.add_assoc, c3]; exact hj
def aE (w : World) (B : Nat) (L : List St) (a : Option Addr) (cap : Nat) : Prop := w.ownsRow B 69 4 (.slice a L.length cap) L.length (aV L)
theorem aE.stars {w : World} {B : Nat} {L : List St} {a : Option Addr} {cap : Nat} (h : aE w B L a cap) : aJ w a L L.length := by
 obtain ⟨a', c', e, _, _, hs⟩ := mJ h
 injection e with e1 e2 e3
 subst e1
 exact hs
theorem aE.row {w : World} {B : Nat} {L : List St} {a : Option Addr} {cap : Nat} (h : aE w B L a cap) : ∃ row, pn w a L.length row ∧ ∀ g, row = some g → B ≤ g := tv h rfl
theorem aE.capMax {w : World} {B : Nat} {L : List St} {a : Option Addr} {cap : Nat} (h : aE w B L a cap) : L.length ≤ cap ∧ cap ≤ maxLen := by
 obtain ⟨a', c', e, h1, h2, _⟩ := mJ h
 injection e with e1 e2 e3
 subst e3
 exact ⟨h1, h2⟩
theorem aE.kept {w w' : World} {B : Nat} {L : List St} {a : Option Addr} {cap : Nat} (h : aE w B L a cap) (hB : Below w.heap.size w w') : aE w' B L a cap := by
 obtain ⟨h1, h2⟩ := h
 refine ⟨h1, ?_⟩
 rcases h2 with h2 | ⟨g, c', cur, e, hg, hh, r⟩
 ·exact .inl h2
 ·exact .inr ⟨g, c', cur, e, hg, by rw [hB.block g (Array.getElem?_eq_some_iff.1 hh).1]; exact hh, r⟩
theorem iD.grown {w w' : World} {b : Nat} {row : Option Nat} (h : iD w b) (hb : b < w.heap.size) (hg : w.grownBy w' row) (hne : some b ≠ row) : iD w' b := fun i => by
 have h1 := h i
 unfold World.frozen? at h1 ⊢
 rw [hg.block b hb hne]
 exact h1
theorem aE.far {w : World} {B : Nat} {L : List St} {a : Option Addr} {cap : Nat} (h : aE w B L a cap) {b : Nat} (hne : b < B) (o : Nat) (x : Value) : aE (w.setCell ⟨b, o, none⟩ x) B L a cap := by
 obtain ⟨h1, h2⟩ := h
 refine ⟨h1, ?_⟩
 rcases h2 with h2 | ⟨g, c', cur, e, hg, hh, r⟩
 ·exact .inl h2
 ·exact .inr ⟨g, c', cur, e, hg, by rw [Below.heap_setCell w ⟨b, o, none⟩ x g (by show g ≠ b; omega)]; exact hh, r⟩
end
end Go.Proofs.YtoakkmjcbnfljaaGreatDoor
