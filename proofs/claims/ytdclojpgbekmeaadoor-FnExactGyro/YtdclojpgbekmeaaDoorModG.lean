/- A list of stars copied by append. -/
import Derived.Test.YtdclojpgbekmeaaDoorModE
namespace Go.Proofs.YtdclojpgbekmeaaDoor
open Go.RowKit Go.Sort
set_option linter.unusedVariables false

theorem ownS_none (w : World) (B : Nat) (h : B ≤ w.heap.size) : (w.alloc (.cells #[] 60)).ownsRow B 60 4 (.slice (some ⟨w.heap.size, 0, none⟩) 0 0) 0 [] :=
  ⟨rfl, .inr ⟨_, 0, #[], rfl, h, Array.getElem?_push_size, Nat.le_refl _, Nat.zero_le _, rfl, rfl⟩⟩
theorem flatSt_one {L : List St} {u : Value} (h : u ∈ flatSt L) : u.oneCell' = true := by
  unfold flatSt at h
  rw [List.mem_flatMap] at h
  obtain ⟨s, _, hs⟩ := h
  simp [stC] at hs
  rcases hs with rfl | rfl | rfl | rfl <;> rfl
theorem stars_cells {w : World} {b o : Nat} {L : List St} (h : Stars w (some ⟨b, o, none⟩) L L.length) (j : Nat) (u : Value) (hj : (flatSt L)[j]? = some u) : w.cell? ((⟨b, o, none⟩ : Addr).add j) = some u := by
  have hlt : j < L.length * 4 := by
    have := (List.getElem?_eq_some_iff.1 hj).1
    rw [flatSt_len] at this
    exact this
  have hA : (⟨b, o, none⟩ : Addr).add j = ⟨b, o + j, none⟩ := by unfold Addr.add; split <;> simp_all
  rw [hA]
  rcases h with h | ⟨b', o', e, _, hc⟩
  · omega
  · simp only [Option.some.injEq, Addr.mk.injEq, and_true] at e
    obtain ⟨rfl, rfl⟩ := e
    obtain ⟨e0, e1, e2, e3⟩ := flatSt_at L (j / 4) (by omega)
    obtain ⟨c0, c1, c2, c3⟩ := hc (j / 4) (by omega)
    have h4 : j = j / 4 * 4 ∨ j = j / 4 * 4 + 1 ∨ j = j / 4 * 4 + 2 ∨ j = j / 4 * 4 + 3 := by omega
    rcases h4 with h4 | h4 | h4 | h4
    · rw [h4, e0] at hj; rw [h4, c0]; exact hj
    · rw [h4, e1] at hj; rw [h4, ← Nat.add_assoc, c1]; exact hj
    · rw [h4, e2] at hj; rw [h4, ← Nat.add_assoc, c2]; exact hj
    · rw [h4, e3] at hj; rw [h4, ← Nat.add_assoc, c3]; exact hj
/-- what is copied: an own row of L, at a -/
def Copied (w : World) (B : Nat) (L : List St) (a : Option Addr) (cap : Nat) : Prop := w.ownsRow B 60 4 (.slice a L.length cap) L.length (flatSt L)
theorem Copied.stars {w : World} {B : Nat} {L : List St} {a : Option Addr} {cap : Nat} (h : Copied w B L a cap) : Stars w a L L.length := by
  obtain ⟨a', c', e, _, _, hs⟩ := own_stars h
  injection e with e1 e2 e3
  subst e1
  exact hs
theorem Copied.row {w : World} {B : Nat} {L : List St} {a : Option Addr} {cap : Nat} (h : Copied w B L a cap) : ∃ row, OwnR w a L.length row ∧ ∀ g, row = some g → B ≤ g := own_row h rfl
theorem Copied.capMax {w : World} {B : Nat} {L : List St} {a : Option Addr} {cap : Nat} (h : Copied w B L a cap) : L.length ≤ cap ∧ cap ≤ maxLen := by
  obtain ⟨a', c', e, h1, h2, _⟩ := own_stars h
  injection e with e1 e2 e3
  subst e3
  exact ⟨h1, h2⟩
theorem Copied.kept {w w' : World} {B : Nat} {L : List St} {a : Option Addr} {cap : Nat} (h : Copied w B L a cap) (hB : Below w.heap.size w w') : Copied w' B L a cap := by
  obtain ⟨h1, h2⟩ := h
  refine ⟨h1, ?_⟩
  rcases h2 with h2 | ⟨g, c', cur, e, hg, hh, r⟩
  · exact .inl h2
  · exact .inr ⟨g, c', cur, e, hg, by rw [hB.block g (Array.getElem?_eq_some_iff.1 hh).1]; exact hh, r⟩
theorem Copied.low {w : World} {B B' : Nat} {L : List St} {a : Option Addr} {cap : Nat} (h : Copied w B L a cap) (hb : B' ≤ B) : Copied w B' L a cap := by
  obtain ⟨h1, h2⟩ := h
  refine ⟨h1, ?_⟩
  rcases h2 with h2 | ⟨g, c', cur, e, hg, r⟩
  · exact .inl h2
  · exact .inr ⟨g, c', cur, e, by omega, r⟩
theorem copied_form {w : World} {B : Nat} {L : List St} {v : Value} (h : w.ownsRow B 60 4 v L.length (flatSt L)) : ∃ a cap, v = .slice a L.length cap ∧ Copied w B L a cap := by
  obtain ⟨a, cap, e, _⟩ := own_stars h
  exact ⟨a, cap, e, by unfold Copied; rw [← e]; exact h⟩
theorem FreeK.grown {w w' : World} {b : Nat} {row : Option Nat} (h : FreeK w b) (hb : b < w.heap.size) (hg : w.grownBy w' row) (hne : some b ≠ row) : FreeK w' b := fun i => by
  have h1 := h i
  unfold World.frozen? at h1 ⊢
  rw [hg.block b hb hne]
  exact h1
theorem Copied.far {w : World} {B : Nat} {L : List St} {a : Option Addr} {cap : Nat} (h : Copied w B L a cap) {b : Nat} (hne : b < B) (o : Nat) (x : Value) : Copied (w.setCell ⟨b, o, none⟩ x) B L a cap := by
  obtain ⟨h1, h2⟩ := h
  refine ⟨h1, ?_⟩
  rcases h2 with h2 | ⟨g, c', cur, e, hg, hh, r⟩
  · exact .inl h2
  · exact .inr ⟨g, c', cur, e, hg, by rw [Below.heap_setCell w ⟨b, o, none⟩ x g (by show g ≠ b; omega)]; exact hh, r⟩
end Go.Proofs.YtdclojpgbekmeaaDoor
