/- Several texts in one: InM. -/
import Derived.Test.YtoakkmjcbnfljaaGreatDoorQFnIdentOwn38
import Derived.Test.YtoakkmjcbnfljaaGreatDoorQFnIdentOwn39
import Derived.Test.YtoakkmjcbnfljaaGreatDoorQFnIdentOwn8
namespace Go.Proofs.YtoakkmjcbnfljaaGreatDoor
set_option linter.unusedVariables false
set_option linter.unusedSimpArgs false
set_option maxRecDepth 100000
set_option maxHeartbeats 8000000
section
open Go.RowKit
theorem gy : ∀ (X : List (List Int)) (g : List Int × Nat), (g.2 = 0 → g.1 = []) → (g.2 ≠ 0 → 3 ≤ aD g.1) →
  ((X.foldl aR g).2 = 0 → (X.foldl aR g).1 = []) ∧ ((X.foldl aR g).2 ≠ 0 → 3 ≤ aD (X.foldl aR g).1) ∧ aD g.1 ≤ aD (X.foldl aR g).1 ∧ (g.2 ≠ 0 → (X.foldl aR g).2 ≠ 0) ∧
  (∀ x ∈ X, 3 ≤ aD x → (X.foldl aR g).2 ≠ 0 ∧ aD x ≤ aD (X.foldl aR g).1) ∧
  ((X.foldl aR g).2 = 1 → (g.2 = 0 ∨ aD g.1 < aD (X.foldl aR g).1 ∨ g.2 = 1 ∧ (X.foldl aR g).1 = g.1) ∧ ∀ x ∈ X, 3 ≤ aD x → aD x = aD (X.foldl aR g).1 → x = (X.foldl aR g).1 ∧ (g.2 = 0 ∨ aD g.1 < aD (X.foldl aR g).1)) ∧ g.2 ≤ (X.foldl aR g).2 + (if aD g.1 < aD (X.foldl aR g).1 then g.2 else 0)
 | [], g, h0, h3 => by
  refine ⟨h0, h3, Nat.le_refl _, fun h => h, fun x hx => (by cases hx), fun h => ⟨.inr (.inr ⟨h, rfl⟩), fun x hx => (by cases hx)⟩, Nat.le_add_right _ _⟩
 | x :: X, g, h0, h3 => by
  rw [List.foldl_cons]
  have hc0 : g.2 = 0 → aD g.1 = 0 := fun h => by rw [h0 h]; rfl
  by_cases c1 : aD x < 3 ∨ aD x < aD g.1
  ·have e : aR g x = g := by unfold aR; rw [if_pos c1]
   rw [e]
   obtain ⟨a1, a2, a3, a4, a5, a6, a7⟩ := gy X g h0 h3
   refine ⟨a1, a2, a3, a4, fun y hy h => ?_, fun h => ⟨(a6 h).1, fun y hy h4 h5 => ?_⟩, a7⟩
   ·rcases List.mem_cons.1 hy with rfl | hy
    ·have hx : aD y < aD g.1 := by omega
     have hg : g.2 ≠ 0 := fun hz => by have := hc0 hz; omega
     exact ⟨a4 hg, by omega⟩
    ·exact a5 y hy h
   ·rcases List.mem_cons.1 hy with rfl | hy
    ·omega
    ·exact (a6 h).2 y hy h4 h5
  ·by_cases c2 : aD g.1 < aD x
   ·have e : aR g x = (x, 1) := by unfold aR; rw [if_neg c1, if_pos c2]
    rw [e]
    obtain ⟨a1, a2, a3, a4, a5, a6, a7⟩ := gy X (x, 1) (fun h => by cases h) (fun _ => by show 3 ≤ aD x; omega)
    have a3' : aD x ≤ aD (X.foldl aR (x, 1)).1 := a3
    refine ⟨a1, a2, by omega, fun _ => a4 Nat.one_ne_zero, fun y hy h => ?_, fun h => ⟨.inr (.inl (by omega)), fun y hy h4 h5 => ?_⟩, ?_⟩
    ·rcases List.mem_cons.1 hy with rfl | hy
     ·exact ⟨a4 Nat.one_ne_zero, a3'⟩
     ·exact a5 y hy h
    ·rcases List.mem_cons.1 hy with rfl | hy
     ·refine ⟨?_, .inr (by omega)⟩
      rcases (a6 h).1 with q | q | q
      ·cases q
      ·have : aD y < aD (X.foldl aR (y, 1)).1 := q
       omega
      ·exact q.2.symm
     ·exact ⟨((a6 h).2 y hy h4 h5).1, .inr (by omega)⟩
    ·rw [if_pos (by omega)]
     omega
   ·have e : aR g x = (g.1, g.2 + 1) := by unfold aR; rw [if_neg c1, if_neg c2]
    have hg : g.2 ≠ 0 := fun hz => by have := hc0 hz; omega
    rw [e]
    obtain ⟨a1, a2, a3, a4, a5, a6, a7⟩ := gy X (g.1, g.2 + 1) (fun h => by cases h) (fun _ => h3 hg)
    have a3' : aD g.1 ≤ aD (X.foldl aR (g.1, g.2 + 1)).1 := a3
    have a7' : g.2 + 1 ≤ (X.foldl aR (g.1, g.2 + 1)).2 + (if aD g.1 < aD (X.foldl aR (g.1, g.2 + 1)).1 then g.2 + 1 else 0) := a7
    refine ⟨a1, a2, a3', fun _ => a4 (by show g.2 + 1 ≠ 0; omega), fun y hy h => ?_, fun h => ⟨?_, fun y hy h4 h5 => ?_⟩, ?_⟩
    ·rcases List.mem_cons.1 hy with rfl | hy
     ·exact ⟨a4 (by show g.2 + 1 ≠ 0; omega), by omega⟩
     ·exact a5 y hy h
    ·by_cases q : aD g.1 < aD (X.foldl aR (g.1, g.2 + 1)).1
     ·exact .inr (.inl q)
     ·rw [if_neg q] at a7'
      omega
    ·have hlt : aD g.1 < aD (X.foldl aR (g.1, g.2 + 1)).1 := by
      by_cases q : aD g.1 < aD (X.foldl aR (g.1, g.2 + 1)).1
      ·exact q
      ·rw [if_neg q] at a7'
       omega
     rcases List.mem_cons.1 hy with rfl | hy
     ·omega
     ·exact ⟨((a6 h).2 y hy h4 h5).1, .inr hlt⟩
    ·by_cases q : aD g.1 < aD (X.foldl aR (g.1, g.2 + 1)).1
     ·rw [if_pos q]; omega
     ·rw [if_neg q] at a7' ⊢; omega
theorem mz (L : List St) (S : List D3) : ((aW L S).2 ≠ 0 → 3 ≤ aD (aW L S).1) ∧ ∀ x ∈ cg (bs L S) (L.map (·.1)) S.length [], 3 ≤ aD x → (aW L S).2 ≠ 0 ∧ aD x ≤ aD (aW L S).1 ∧ ((aW L S).2 = 1 → aD x = aD (aW L S).1 → x = (aW L S).1) := by
 obtain ⟨a1, a2, a3, a4, a5, a6, a7⟩ := gy (cg (bs L S) (L.map (·.1)) S.length []) ([], 0) (fun _ => rfl) (fun h => absurd rfl h)
 exact ⟨a2, fun x hx h => ⟨(a5 x hx h).1, (a5 x hx h).2, fun h1 h2 => ((a6 h1).2 x hx h h2).1⟩⟩
theorem lL {L : List St} {S : List D3} (h : bH L S = 0) : aN L S (bl L S) = true ∧ bT L S = (aD (bl L S) : Int) ∧ 3 ≤ aD (bl L S) ∧ ¬ (400 < L.length ∨ 400 < S.length) := by
 by_cases hb : 400 < L.length ∨ 400 < S.length
 ·rw [(gC hb).2.2] at h; cases h
 ·cases ho : gW L S
  ·rw [(fo hb ho).2.2] at h; cases h
  ·obtain ⟨e1, e2, e3⟩ := fp hb ho
   rw [e3] at h
   have hsk : aL L = true ∧ aM S = true := by unfold gW at ho; simpa using ho
   have hn := oy hsk.1 hsk.2 h
   have hg := eO L S
   have h2 : (aW L S).2 = 1 := by
    rw [hg.2.2] at h
    by_cases a : (aW L S).2 = 0
    ·rw [if_pos a] at h; cases h
    ·rw [if_neg a] at h
     by_cases b : 1 < (aW L S).2
     ·rw [if_pos b] at h; cases h
     ·omega
   rw [e1, e2]
   refine ⟨hn, ?_, ?_, hb⟩
   ·rw [hg.1, hg.2.1, if_pos h2, if_pos h2]
   ·rw [hg.1, if_pos h2]
    exact (mz L S).1 (by omega)
theorem od (F : List Int → Int → Bool) (A : List Int) : ∀ (r : Nat) (pre suf : List Int), suf.length = r → (∀ a ∈ suf, a ∈ A) → (∀ k, k < suf.length → F (pre ++ suf.take k) (suf.getD k 0) = true) → pre ++ suf ∈ cg F A r pre
 | 0, pre, suf, hl, _, _ => by
  have : suf = [] := List.eq_nil_of_length_eq_zero hl
  subst this
  simp [cg]
 | r + 1, pre, suf, hl, hA, hF => by
  cases suf with
  | nil => simp at hl
  | cons a s =>
   simp only [cg, List.mem_append, List.mem_flatMap]
   refine .inl ⟨a, List.mem_filter.2 ⟨hA a (List.mem_cons_self ..), ?_⟩, ?_⟩
   ·have := hF 0 (by simp)
    simpa using this
   ·have := od F A r (pre ++ [a]) s (by simpa using hl) (fun b hb => hA b (List.mem_cons_of_mem _ hb)) (fun k hk => by
     have := hF (k + 1) (by simpa using hk)
     simpa [List.append_assoc] using this)
    simpa [List.append_assoc] using this
theorem rO (a b c d x y z u v t : Int) : apY a b c d x y z * apZ a b c d u v t - apZ a b c d x y z * apY a b c d u v t = nT a b c d * apX a b c d (y * t - z * v) (z * u - x * t) (x * v - y * u) ∧ apZ a b c d x y z * apX a b c d u v t - apX a b c d x y z * apZ a b c d u v t = nT a b c d * apY a b c d (y * t - z * v) (z * u - x * t) (x * v - y * u) ∧ apX a b c d x y z * apY a b c d u v t - apY a b c d x y z * apX a b c d u v t = nT a b c d * apZ a b c d (y * t - z * v) (z * u - x * t) (x * v - y * u) := by
 unfold apX apY apZ nT
 refine ⟨?_, ?_, ?_⟩ <;> grind
def qP (a1 a2 a3 b1 b2 b3 c1 c2 c3 : Int) : Int := (a2 * b3 - a3 * b2) * c1 + (a3 * b1 - a1 * b3) * c2 + (a1 * b2 - a2 * b1) * c3
theorem tW (a b c d x y z u v t p q r : Int) : qP (apX a b c d x y z) (apY a b c d x y z) (apZ a b c d x y z) (apX a b c d u v t) (apY a b c d u v t) (apZ a b c d u v t) (apX a b c d p q r) (apY a b c d p q r) (apZ a b c d p q r) = nT a b c d * (nT a b c d * nT a b c d) * qP x y z u v t p q r := by
 obtain ⟨e1, e2, e3⟩ := rO a b c d x y z u v t
 have e := eK a b c d (y * t - z * v) (z * u - x * t) (x * v - y * u) p q r
 unfold qP
 rw [e1, e2, e3]
 unfold dot at e
 generalize apX a b c d (y * t - z * v) (z * u - x * t) (x * v - y * u) = A at *
 generalize apY a b c d (y * t - z * v) (z * u - x * t) (x * v - y * u) = B at *
 generalize apZ a b c d (y * t - z * v) (z * u - x * t) (x * v - y * u) = C at *
 have : nT a b c d * A * apX a b c d p q r + nT a b c d * B * apY a b c d p q r + nT a b c d * C * apZ a b c d p q r = nT a b c d * (A * apX a b c d p q r + B * apY a b c d p q r + C * apZ a b c d p q r) := by
  generalize nT a b c d = n
  generalize apX a b c d p q r = X
  generalize apY a b c d p q r = Y
  generalize apZ a b c d p q r = Z
  grind
 rw [this, e]
 generalize nT a b c d = n
 grind
theorem gq {L : List St} {a b c d : Int} (hk : aL L = true) (ht : aC a b c d = true) {i : Nat} (hi : i < L.length) : ∃ g : Int, 0 < g ∧ apX a b c d (stA L i).2.1 (stA L i).2.2.1 (stA L i).2.2.2 = g * (scV L a b c d (stA L i).1).1 ∧ apY a b c d (stA L i).2.1 (stA L i).2.2.1 (stA L i).2.2.2 = g * (scV L a b c d (stA L i).1).2.1 ∧ apZ a b c d (stA L i).2.1 (stA L i).2.2.1 (stA L i).2.2.2 = g * (scV L a b c d (stA L i).1).2.2 := by
 have hs := di ((bm hk).2 i hi)
 have e0 : fx L (stA L i).1 = (stA L i).2 := by unfold fx; rw [if_pos hk]; exact jh hk hi
 have hr : aq (apX a b c d (stA L i).2.1 (stA L i).2.2.1 (stA L i).2.2.2) (apY a b c d (stA L i).2.1 (stA L i).2.2.1 (stA L i).2.2.2) (apZ a b c d (stA L i).2.1 (stA L i).2.2.1 (stA L i).2.2.2) = true := iR (M := 1000000) (by omega) (ip (v := (stA L i).2) ht hs) (tM ht (aI.1 (bd hs).1).2)
 have e1 : apV a b c d (stA L i).2 = apD a b c d (stA L i).2 := mj ht hs
 obtain ⟨p, q, r, e2, e3, e4, e5, e6, e7, hg⟩ := oV hr
 refine ⟨_, hg, ?_, ?_, ?_⟩
 ·unfold scV prD; rw [e0, e1]; unfold apD; dsimp only; rw [hr, e2]; exact e5
 ·unfold scV prD; rw [e0, e1]; unfold apD; dsimp only; rw [hr, e3]; exact e6
 ·unfold scV prD; rw [e0, e1]; unfold apD; dsimp only; rw [hr, e4]; exact e7
end
end Go.Proofs.YtoakkmjcbnfljaaGreatDoor
