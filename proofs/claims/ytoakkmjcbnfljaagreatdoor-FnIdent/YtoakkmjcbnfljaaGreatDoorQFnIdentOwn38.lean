/- Several texts in one: SceM. -/
import Derived.Test.YtoakkmjcbnfljaaGreatDoorQFnIdentOwn37
import Derived.Test.YtoakkmjcbnfljaaGreatDoorQFnIdentOwn12
import Derived.Test.YtoakkmjcbnfljaaGreatDoorQFnIdentOwn3
import Derived.Test.YtoakkmjcbnfljaaGreatDoorQFnIdentOwn1
namespace Go.Proofs.YtoakkmjcbnfljaaGreatDoor
set_option linter.unusedVariables false
set_option linter.unusedSimpArgs false
set_option maxRecDepth 100000
set_option maxHeartbeats 8000000
section
open Go.RowKit
def prD (v : D3) : D3 := (prI (aq v.1 v.2.1 v.2.2) (gI v.1 v.2.1 v.2.2) v.1, prI (aq v.1 v.2.1 v.2.2) (gI v.1 v.2.1 v.2.2) v.2.1, prI (aq v.1 v.2.1 v.2.2) (gI v.1 v.2.1 v.2.2) v.2.2)
def apV (a b c d : Int) (v : D3) : D3 := (apI (apR a b c d v.1 v.2.1 v.2.2) (apX a b c d v.1 v.2.1 v.2.2), apI (apR a b c d v.1 v.2.1 v.2.2) (apY a b c d v.1 v.2.1 v.2.2), apI (apR a b c d v.1 v.2.1 v.2.2) (apZ a b c d v.1 v.2.1 v.2.2))
def scV (L : List St) (a b c d id : Int) : D3 := prD (apV a b c d (fx L id))
def scI (L : List St) (a b c d cone : Int) : List Int := (fu L a b c d cone).take 6
def scS (L : List St) (a b c d cone : Int) : List D3 := (scI L a b c d cone).map (scV L a b c d)
theorem mj {a b c d x y z : Int} (ht : aC a b c d = true) (hs : aH x y z = true) : apV a b c d (x, y, z) = apD a b c d (x, y, z) := by
 have hr : apR a b c d x y z = true := by unfold apR; rw [ht, gu hs]; rfl
 unfold apV apD apI
 simp only [hr, if_true]
theorem lw {L : List St} {a b c d : Int} (hk : aL L = true) (ht : aC a b c d = true) {i : Nat} (hi : i < L.length) : ek (scV L a b c d (stA L i).1) = true ∧ aS (scV L a b c d (stA L i).1) (apD a b c d (stA L i).2) = true := by
 have hs := di ((bm hk).2 i hi)
 have e : fx L (stA L i).1 = (stA L i).2 := by unfold fx; rw [if_pos hk]; exact jh hk hi
 unfold scV
 rw [e]
 clear e
 generalize (stA L i).2 = v at *
 obtain ⟨x, y, z⟩ := v
 dsimp only at hs
 have hw : aF 1800 (apX a b c d x y z) (apY a b c d x y z) (apZ a b c d x y z) = true := oe (D := 300) ht (by have h := bA (bd hs).2 (bd hs).2; omega) (by omega) (by omega)
 have hne := tM ht (aI.1 (bd hs).1).2
 rw [mj ht hs]
 unfold apD prD ek aS
 dsimp only
 generalize apX a b c d x y z = p at *
 generalize apY a b c d x y z = q at *
 generalize apZ a b c d x y z = r at *
 have hri : aq p q r = true := iR (by omega) hw hne
 obtain ⟨u1, u2, u3, e1, e2, e3, f1, f2, f3, hg⟩ := oV hri
 rw [hri, e1, e2, e3]
 clear e1 e2 e3
 generalize gI p q r = g at *
 subst f1 f2 f3
 have hwi := aK.1 hw
 have hu : aF 1800 u1 u2 u3 = true := aK.2 ⟨nK hg hwi.1, nK hg hwi.2.1, nK hg hwi.2.2⟩
 have hnz : ¬ (u1 = 0 ∧ u2 = 0 ∧ u3 = 0) := fun h => hne ⟨by rw [h.1]; simp, by rw [h.2.1]; simp, by rw [h.2.2]; simp⟩
 exact ⟨tI hu hnz, ry hg (iR (by omega) hu hnz) hri⟩
theorem pe {p q r : D3} (h1 : aS p q = true) (h2 : aS q r = true) : aS p r = true := by
 rw [lr] at h1
 unfold aS at *
 obtain ⟨rq, rp, ⟨b1, b2, b3⟩, b4⟩ := dZ h1
 obtain ⟨_, rr, ⟨c1, c2, c3⟩, c4⟩ := dZ h2
 obtain ⟨h3, h4⟩ := gx (aI.1 rq).2 b1 b2 b3 c1 c2 c3 b4 c4
 exact ks rp rr h3 h4
theorem qv {L : List St} {a b c d : Int} {v : D3} (hk : aL L = true) (ht : aC a b c d = true) {i j : Nat} (hi : i < L.length) (hj : j < L.length) (h1 : aS v (apD a b c d (stA L i).2) = true) (h2 : aS v (apD a b c d (stA L j).2) = true) : i = j := by
 rcases Nat.lt_trichotomy i j with h | h | h
 ·rw [qu hk ht hj h h2] at h1; cases h1
 ·exact h
 ·rw [qu hk ht hi h h1] at h2; cases h2
theorem sh {L : List St} {a b c d : Int} {v : D3} (hk : aL L = true) (ht : aC a b c d = true) {i : Nat} (h : aS v (apD a b c d (stA L i).2) = true) : ∀ k, i < k → k ≤ L.length → dy L a b c d v k = (stA L i).1
 | 0, h0, _ => by omega
 | k + 1, h0, hl => by
  unfold dy
  cases hs : aS v (apD a b c d (stA L k).2)
  ·have : i ≠ k := fun e => by rw [e, hs] at h; cases h
   rw [if_neg (by simp)]
   exact sh hk ht h k (by omega) (by omega)
  ·rw [if_pos rfl, qv hk ht (show i < L.length by omega) (show k < L.length by omega) h hs]
theorem fK {L : List St} {a b c d cone id : Int} : ∀ k, id ∈ bw L a b c d cone k → ∃ i, i < k ∧ (stA L i).1 = id
 | 0, h => by simp [bw] at h
 | k + 1, h => by
  unfold bw at h
  split at h
  ·rcases List.mem_append.1 h with h | h
   ·obtain ⟨i, hi, e⟩ := fK k h
    exact ⟨i, by omega, e⟩
   ·exact ⟨k, by omega, (List.mem_singleton.1 h).symm⟩
  ·obtain ⟨i, hi, e⟩ := fK k h
   exact ⟨i, by omega, e⟩
theorem jP {L : List St} {a b c d cone : Int} (hk : aL L = true) : ∀ k, k ≤ L.length → (bw L a b c d cone k).Pairwise (· < ·)
 | 0, _ => List.Pairwise.nil
 | k + 1, h => by
  unfold bw
  have ih := jP (a := a) (b := b) (c := c) (d := d) (cone := cone) hk k (by omega)
  split
  ·rw [List.pairwise_append]
   refine ⟨ih, List.pairwise_singleton _ _, fun x hx y hy => ?_⟩
   obtain ⟨i, hi, e⟩ := fK k hx
   rw [List.mem_singleton.1 hy, ← e]
   exact kY hk k (by omega) i hi
  ·exact ih
theorem rA {L : List St} {a b c d cone id : Int} (h : id ∈ fu L a b c d cone) : ∃ i, i < L.length ∧ (stA L i).1 = id := by
 unfold fu at h
 split at h
 ·exact fK _ h
 ·cases h
theorem pT {L : List St} {a b c d cone : Int} (hk : aL L = true) : (fu L a b c d cone).Pairwise (· < ·) := by
 unfold fu
 split
 ·exact jP hk _ (Nat.le_refl _)
 ·exact List.Pairwise.nil
theorem gM {L : List St} {a b c d cone id : Int} (h : id ∈ scI L a b c d cone) : ∃ i, i < L.length ∧ (stA L i).1 = id := rA (List.mem_of_mem_take h)
theorem lu {L : List St} {a b c d cone : Int} (hk : aL L = true) : (scI L a b c d cone).Pairwise (· < ·) := (pT hk).sublist (List.take_sublist _ _)
theorem nO (L : List St) (a b c d cone : Int) : (scI L a b c d cone).length ≤ 6 := by unfold scI; rw [List.length_take]; omega
theorem fJ (L : List St) (a b c d cone : Int) : (scS L a b c d cone).length = (scI L a b c d cone).length := by unfold scS; rw [List.length_map]
theorem pS {L : List St} {a b c d cone : Int} {j : Nat} (hj : j < (scI L a b c d cone).length) : vA (scS L a b c d cone) j = scV L a b c d ((scI L a b c d cone)[j]) := by
 unfold vA scS
 rw [List.getD_eq_getElem?_getD, List.getElem?_map, List.getElem?_eq_getElem hj]
 rfl
theorem iT {L : List St} {a b c d : Int} (cone : Int) (hk : aL L = true) (ht : aC a b c d = true) : aM (scS L a b c d cone) = true := by
 refine fw (by rw [fJ]; exact nO _ _ _ _ _ _) (fun j hj => ?_)
 rw [fJ] at hj
 have hr := List.pairwise_iff_getElem.1 (lu (a := a) (b := b) (c := c) (d := d) (cone := cone) hk)
 obtain ⟨i, hi, ei⟩ := gM (List.getElem_mem hj)
 have o := lw hk ht hi
 rw [ei, ← pS hj] at o
 unfold okV
 rw [o.1, kB (fun k hkj => ?_)]
 ·rfl
 cases hs : aS (vA (scS L a b c d cone) j) (vA (scS L a b c d cone) k)
 ·rfl
 ·exfalso
  have hkl : k < (scI L a b c d cone).length := by omega
  obtain ⟨i', hi', ei'⟩ := gM (List.getElem_mem hkl)
  have o' := lw hk ht hi'
  rw [ei', ← pS hkl] at o'
  have e := qv hk ht hi hi' o.2 (pe hs o'.2)
  have := hr k j hkl hj hkj
  rw [← ei, ← ei', e] at this
  omega
theorem sK {L : List St} {a b c d : Int} (cone : Int) (hk : aL L = true) (ht : aC a b c d = true) : aX L a b c d (scS L a b c d cone) = scI L a b c d cone := by
 rw [jq hk ht (iT cone hk ht)]
 unfold scS
 rw [List.map_map]
 refine (List.map_congr_left (fun x hx => ?_)).trans (List.map_id _)
 obtain ⟨i, hi, ei⟩ := gM hx
 have o := lw hk ht hi
 rw [ei] at o
 show dy L a b c d (scV L a b c d x) L.length = x
 rw [sh hk ht o.2 _ hi (Nat.le_refl _), ei]
theorem um {L : List St} {a b c d : Int} (cone : Int) (hk : aL L = true) : aD (scI L a b c d cone) = (scI L a b c d cone).length := by
 unfold aD
 rw [List.countP_eq_length]
 intro x hx
 obtain ⟨i, hi, ei⟩ := gM hx
 have := pD hk hi
 simp only [decide_eq_true_eq]
 omega
end
end Go.Proofs.YtoakkmjcbnfljaaGreatDoor
