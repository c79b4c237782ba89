/- Several texts in one: ModN. -/
import Derived.Test.YtgiodlllokdcdaaGreatDoorQFnModeOwn25
import Derived.Test.YtgiodlllokdcdaaGreatDoorQFnModeOwn13
namespace Go.Proofs.YtgiodlllokdcdaaGreatDoor
set_option linter.unusedVariables false
set_option linter.unusedSimpArgs false
set_option maxRecDepth 100000
set_option maxHeartbeats 8000000
section
open Go.RowKit Go.Sort
theorem jd.row {w : World} {b n : Nat} {L : List St} (h : jd w b n L n) : pj w (some ⟨b, 0, none⟩) n (some b) := by
 obtain ⟨cur, hc, hn, hs⟩ := h
 refine .inr ⟨b, fun j => match j % 4 with | 0 => (stA L (j / 4)).1 | 1 => (stA L (j / 4)).2.1 | 2 => (stA L (j / 4)).2.2.1 | _ => (stA L (j / 4)).2.2.2, rfl, rfl, cur, hc, fun j hj => ?_⟩
 obtain ⟨h0, h1, h2, h3⟩ := hs (j / 4) (by omega)
 have h4 : j % 4 = 0 ∨ j % 4 = 1 ∨ j % 4 = 2 ∨ j % 4 = 3 := by omega
 rcases h4 with h4 | h4 | h4 | h4
 ·dsimp only; rw [h4]; rw [show j / 4 * 4 = j by omega] at h0; exact h0
 ·dsimp only; rw [h4]; rw [show j / 4 * 4 + 1 = j by omega] at h1; exact h1
 ·dsimp only; rw [h4]; rw [show j / 4 * 4 + 2 = j by omega] at h2; exact h2
 ·dsimp only; rw [h4]; rw [show j / 4 * 4 + 3 = j by omega] at h3; exact h3
theorem aq.grown {w w' : World} {B : Nat} {L : List St} {a : Option Addr} {cap : Nat} {row : Option Nat} (h : aq w B L a cap) (hg : w.grownBy w' row) (hne : ∀ g, row = some g → g < B) : aq w' B L a cap := by
 obtain ⟨h1, h2⟩ := h
 refine ⟨h1, ?_⟩
 rcases h2 with h2 | ⟨g, c', cur, e, hb, hh, r⟩
 ·exact .inl h2
 ·exact .inr ⟨g, c', cur, e, hb, by rw [hg.block g (Array.getElem?_eq_some_iff.1 hh).1 (fun e => by have := hne g e.symm; omega)]; exact hh, r⟩
theorem aH.grown {w w' : World} {a : Option Addr} {L : List St} {n : Nat} {row : Option Nat} (h : aH w a L n) (hg : w.grownBy w' row) (hne : ∀ x g, a = some x → row = some g → x.block ≠ g) : aH w' a L n := by
 rcases h with h | ⟨b, o, rfl, hb, hc⟩
 ·exact .inl h
 ·refine .inr ⟨b, o, rfl, Nat.lt_of_lt_of_le hb hg.size, fun i hi => ?_⟩
  have e : w'.heap[b]? = w.heap[b]? := hg.block b hb (fun e => hne _ b rfl e.symm rfl)
  obtain ⟨c0, c1, c2, c3⟩ := hc i hi
  exact ⟨(World.cell?_of_block (a := ⟨b, _, none⟩) e).trans c0, (World.cell?_of_block (a := ⟨b, _, none⟩) e).trans c1, (World.cell?_of_block (a := ⟨b, _, none⟩) e).trans c2, (World.cell?_of_block (a := ⟨b, _, none⟩) e).trans c3⟩
theorem aq.block {w : World} {B : Nat} {L : List St} {a : Option Addr} {cap : Nat} (h : aq w B L a cap) (x : Addr) (e : a = some x) : B ≤ x.block ∧ x.block < w.heap.size := by
 rcases h.2 with ⟨h1, _⟩ | ⟨g, c', cur, e', hb, hh, r⟩
 ·injection h1 with h1; rw [h1] at e; cases e
 ·injection e' with e1; rw [e1] at e; cases e; exact ⟨hb, (Array.getElem?_eq_some_iff.1 hh).1⟩
end
end Go.Proofs.YtgiodlllokdcdaaGreatDoor
