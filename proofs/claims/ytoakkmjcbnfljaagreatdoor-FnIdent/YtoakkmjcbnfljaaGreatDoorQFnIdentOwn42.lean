/- Several texts in one: InN, InD. -/
import Derived.Test.YtoakkmjcbnfljaaGreatDoorQFnIdentOwn40
import Derived.Test.YtoakkmjcbnfljaaGreatDoorQFnIdentOwn41
import Derived.Test.YtoakkmjcbnfljaaGreatDoorQFnIdentOwn1
namespace Go.Proofs.YtoakkmjcbnfljaaGreatDoor
set_option linter.unusedVariables false
set_option linter.unusedSimpArgs false
set_option maxRecDepth 100000
set_option maxHeartbeats 8000000
section
open Go.RowKit
theorem uk {k x y : Int} (hk : 0 < k) (h : k * x = k * y) : x = y := by
 have := co (k := k) (x := x - y) hk (by rw [Int.mul_sub]; omega)
 omega
theorem td {a b c d x y z u v t p1 p2 p3 q1 q2 q3 g h : Int} (ht : aC a b c d = true) (hg : 0 < g) (hh : 0 < h) (e1 : apX a b c d x y z = g * p1) (e2 : apY a b c d x y z = g * p2) (e3 : apZ a b c d x y z = g * p3) (f1 : apX a b c d u v t = h * q1) (f2 : apY a b c d u v t = h * q2) (f3 : apZ a b c d u v t = h * q3) : iq p1 p2 p3 q1 q2 q3 x y z u v t = 0 := by
 have hp := iw (dK ht)
 have d1 := eK a b c d x y z u v t
 have d2 := eK a b c d x y z x y z
 have d3 := eK a b c d u v t u v t
 rw [e1, e2, e3] at d1 d2
 rw [f1, f2, f3] at d1 d3
 have k1 : dot (g * p1) (g * p2) (g * p3) (h * q1) (h * q2) (h * q3) = g * h * dot p1 p2 p3 q1 q2 q3 := by unfold dot; grind
 have k2 : dot (g * p1) (g * p2) (g * p3) (g * p1) (g * p2) (g * p3) = g * g * dot p1 p2 p3 p1 p2 p3 := by unfold dot; grind
 have k3 : dot (h * q1) (h * q2) (h * q3) (h * q1) (h * q2) (h * q3) = h * h * dot q1 q2 q3 q1 q2 q3 := by unfold dot; grind
 rw [k1] at d1
 rw [k2] at d2
 rw [k3] at d3
 unfold iq
 split
 ·have hgh := Int.mul_pos hg hh
  have s1 := mM (x := dot p1 p2 p3 q1 q2 q3) hgh
  rw [d1, mM (Int.mul_pos hp hp)] at s1
  have e : ssq (dot p1 p2 p3 q1 q2 q3) * (dot x y z x y z * dot u v t u v t) = ssq (dot x y z u v t) * (dot p1 p2 p3 p1 p2 p3 * dot q1 q2 q3 q1 q2 q3) := by
   refine uk (Int.mul_pos hgh hgh) ?_
   clear d1 k1 k2 k3 e1 e2 e3 f1 f2 f3
   generalize ssq (dot p1 p2 p3 q1 q2 q3) = s at *
   generalize ssq (dot x y z u v t) = r at *
   generalize dot x y z x y z = X at *
   generalize dot u v t u v t = U at *
   generalize dot p1 p2 p3 p1 p2 p3 = P at *
   generalize dot q1 q2 q3 q1 q2 q3 = Q at *
   generalize nT a b c d = n at *
   have a1 : g * h * (g * h) * (s * (X * U)) = g * h * (g * h) * s * (X * U) := by grind
   have a2 : g * h * (g * h) * (r * (P * Q)) = r * (g * g * P * (h * h * Q)) := by grind
   rw [a1, a2, d2, d3, ← s1]
   grind
  rw [e]
  simp [dD]
 ·rfl
theorem ro {m n x y : Int} (hm : 0 < m) (hn : 0 < n) (h : m * x = n * y) : dD x 0 = dD y 0 := by
 have pos : ∀ {k z : Int}, 0 < k → (0 < k * z ↔ 0 < z) := fun {k z} hk => ⟨fun h => by
  rcases Int.lt_or_le 0 z with h1 | h1
  ·exact h1
  ·have := Int.mul_le_mul_of_nonneg_left h1 (Int.le_of_lt hk); simp at this; omega, fun h => Int.mul_pos hk h⟩
 have neg : ∀ {k z : Int}, 0 < k → (k * z < 0 ↔ z < 0) := fun {k z} hk => ⟨fun h => by
  rcases Int.lt_or_le z 0 with h1 | h1
  ·exact h1
  ·have := Int.mul_nonneg (Int.le_of_lt hk) h1; omega, fun h => Int.mul_neg_of_pos_of_neg hk h⟩
 have a := (pos (z := x) hm).symm.trans ((by rw [h] : 0 < m * x ↔ 0 < n * y).trans (pos (z := y) hn))
 have b := (neg (z := x) hm).symm.trans ((by rw [h] : m * x < 0 ↔ n * y < 0).trans (neg (z := y) hn))
 unfold dD
 by_cases h1 : x < 0
 ·rw [if_pos h1, if_pos (b.1 h1)]
 ·rw [if_neg h1, if_neg (fun h => h1 (b.2 h))]
  by_cases h2 : 0 < x
  ·rw [if_pos h2, if_pos (a.1 h2)]
  ·rw [if_neg h2, if_neg (fun h => h2 (a.2 h))]
theorem sM {a b c d x y z u v t p q r p1 p2 p3 q1 q2 q3 r1 r2 r3 g h k : Int} (ht : aC a b c d = true) (hg : 0 < g) (hh : 0 < h) (hk : 0 < k) (e1 : apX a b c d x y z = g * p1) (e2 : apY a b c d x y z = g * p2) (e3 : apZ a b c d x y z = g * p3) (f1 : apX a b c d u v t = h * q1) (f2 : apY a b c d u v t = h * q2) (f3 : apZ a b c d u v t = h * q3) (k1 : apX a b c d p q r = k * r1) (k2 : apY a b c d p q r = k * r2) (k3 : apZ a b c d p q r = k * r3) : dD (qP p1 p2 p3 q1 q2 q3 r1 r2 r3) 0 = dD (qP x y z u v t p q r) 0 := by
 have hp := iw (dK ht)
 have e := tW a b c d x y z u v t p q r
 rw [e1, e2, e3, f1, f2, f3, k1, k2, k3] at e
 refine ro (Int.mul_pos (Int.mul_pos hg hh) hk) (Int.mul_pos hp (Int.mul_pos hp hp)) ?_
 rw [← e]
 unfold qP
 grind
theorem lx {L : List St} {a b c d : Int} (hk : aL L = true) (ht : aC a b c d = true) {i : Nat} (hi : i < L.length) : aq (scV L a b c d (stA L i).1).1 (scV L a b c d (stA L i).1).2.1 (scV L a b c d (stA L i).1).2.2 = true := (dU (lw hk ht hi).1).1
theorem ej {L : List St} (hk : aL L = true) {i : Nat} (hi : i < L.length) : aq (stA L i).2.1 (stA L i).2.2.1 (stA L i).2.2.2 = true := (bd (di ((bm hk).2 i hi))).1
def sgS (L : List St) (a b c d : Int) (i : Nat) : Sg := (scV L a b c d (stA L i).1, stA L i)
theorem un {L : List St} {a b c d : Int} (hk : aL L = true) (ht : aC a b c d = true) {i j : Nat} (hi : i < L.length) (hj : j < L.length) : fl (sgS L a b c d i) (sgS L a b c d j) = true := by
 obtain ⟨g, hg, e1, e2, e3⟩ := gq hk ht hi
 obtain ⟨h, hh, f1, f2, f3⟩ := gq hk ht hj
 unfold fl sgS
 exact decide_eq_true (td ht hh hg f1 f2 f3 e1 e2 e3)
theorem tx {L : List St} {a b c d : Int} (hk : aL L = true) (ht : aC a b c d = true) {i j k : Nat} (hi : i < L.length) (hj : j < L.length) (hl : k < L.length) : bM (sgS L a b c d i) (sgS L a b c d j) (sgS L a b c d k) = true := by
 obtain ⟨g, hg, e1, e2, e3⟩ := gq hk ht hi
 obtain ⟨h, hh, f1, f2, f3⟩ := gq hk ht hj
 obtain ⟨m, hm, k1, k2, k3⟩ := gq hk ht hl
 unfold bM sgS kH
 dsimp only
 rw [ol (lx hk ht hj) (lx hk ht hl) (lx hk ht hi), ol (ej hk hj) (ej hk hl) (ej hk hi)]
 exact decide_eq_true (sM ht hh hm hg f1 f2 f3 k1 k2 k3 e1 e2 e3)
theorem gz {l : List Int} {j : Nat} (hj : j < l.length) : l.getD j 0 = l[j] := by rw [List.getD_eq_getElem?_getD, List.getElem?_eq_getElem hj]; rfl
theorem jO {L : List St} {a b c d cone : Int} (hk : aL L = true) {j : Nat} (hj : j < (scI L a b c d cone).length) : ∃ x, x < L.length ∧ (scI L a b c d cone).getD j 0 = (stA L x).1 ∧ aY L (scS L a b c d cone) (scI L a b c d cone) j = sgS L a b c d x := by
 obtain ⟨i, hi, ei⟩ := gM (List.getElem_mem hj)
 refine ⟨i, hi, by rw [gz hj, ei], ?_⟩
 unfold aY sgS
 rw [pS hj, gz hj, ← ei, jh hk hi]
theorem uo {L : List St} {a b c d : Int} (cone : Int) (hk : aL L = true) (ht : aC a b c d = true) {k : Nat} (hl : k < (scI L a b c d cone).length) : bs L (scS L a b c d cone) ((scI L a b c d cone).take k) ((scI L a b c d cone).getD k 0) = true := by
 have hlen : ((scI L a b c d cone).take k).length = k := by rw [List.length_take]; omega
 have hr := List.pairwise_iff_getElem.1 (lu (a := a) (b := b) (c := c) (d := d) (cone := cone) hk)
 obtain ⟨x, hx, ex, sx⟩ := jO (a := a) (b := b) (c := c) (d := d) (cone := cone) hk hl
 unfold bs
 rw [hlen]
 have e : (vA (scS L a b c d cone) k, ((scI L a b c d cone).getD k 0, atV L L.length ((scI L a b c d cone).getD k 0))) = sgS L a b c d x := sx
 rw [e, fZ (ids' := scI L a b c d cone) _ (fun i hi => by
  rw [List.getD_eq_getElem?_getD, List.getElem?_take, if_pos hi, ← List.getD_eq_getElem?_getD])]
 unfold dt
 rw [List.all_eq_true]
 intro i hi
 have hik := List.mem_range.1 hi
 obtain ⟨y, hy, ey, sy⟩ := jO (a := a) (b := b) (c := c) (d := d) (cone := cone) hk (show i < (scI L a b c d cone).length by omega)
 have hne : (sgS L a b c d x).2.1 ≠ (scI L a b c d cone).getD i 0 := by
  show (stA L x).1 ≠ _
  rw [← ex, gz hl, gz (show i < (scI L a b c d cone).length by omega)]
  have := hr i k (by omega) hl hik
  omega
 rw [sy, un hk ht hx hy, decide_eq_true hne]
 have : ((List.range i).all fun j => decide ((scI L a b c d cone).getD j 0 = 0) || bM (sgS L a b c d x) (aY L (scS L a b c d cone) (scI L a b c d cone) j) (sgS L a b c d y)) = true := by
  rw [List.all_eq_true]
  intro j hj
  have hji := List.mem_range.1 hj
  obtain ⟨z, hz, ez, sz⟩ := jO (a := a) (b := b) (c := c) (d := d) (cone := cone) hk (show j < (scI L a b c d cone).length by omega)
  rw [sz, tx hk ht hx hz hy, Bool.or_true]
 rw [this]
 simp
theorem sL {L : List St} {a b c d : Int} (cone : Int) (hk : aL L = true) (ht : aC a b c d = true) : scI L a b c d cone ∈ cg (bs L (scS L a b c d cone)) (L.map (·.1)) (scS L a b c d cone).length [] := by
 have := od (bs L (scS L a b c d cone)) (L.map (·.1)) (scS L a b c d cone).length [] (scI L a b c d cone) (fJ _ _ _ _ _ _).symm (fun x hx => by
  obtain ⟨i, hi, ei⟩ := gM hx
  rw [← ei]
  refine List.mem_map.2 ⟨stA L i, ?_, rfl⟩
  unfold stA
  rw [List.getD_eq_getElem?_getD, List.getElem?_eq_getElem hi]
  exact List.getElem_mem hi) (fun k hl => by rw [List.nil_append]; exact uo cone hk ht hl)
 simpa using this
theorem pg {L : List St} {a b c d : Int} (cone : Int) (hk : aL L = true) (ht : aC a b c d = true) : aN L (scS L a b c d cone) (scI L a b c d cone) = true := by
 have hm := sL cone hk ht
 have hn := gG hk (scS L a b c d cone).length [] _ rfl hm
 unfold aN
 rw [hk, iT cone hk ht, ← gm, hn, decide_eq_true (fJ _ _ _ _ _ _).symm]
 rfl
theorem tB {L : List St} {a b c d : Int} (cone : Int) (hk : aL L = true) (ht : aC a b c d = true) (h3 : 3 ≤ (scI L a b c d cone).length) : (bH L (scS L a b c d cone) = 0 ∧ bl L (scS L a b c d cone) = scI L a b c d cone) ∨ bH L (scS L a b c d cone) = 11 := by
 have hp := iT cone hk ht
 have hm := sL cone hk ht
 have hc := um (a := a) (b := b) (c := c) (d := d) cone hk
 have h12 := (bm hk).1
 have h6 := (bc hp).1
 have ho : gW L (scS L a b c d cone) = true := by unfold gW; rw [hk, hp]; rfl
 obtain ⟨e1, e2, e3⟩ := fp (show ¬ (400 < L.length ∨ 400 < (scS L a b c d cone).length) by omega) ho
 obtain ⟨g1, g2, g3⟩ := eO L (scS L a b c d cone)
 obtain ⟨t1, t2⟩ := mz L (scS L a b c d cone)
 obtain ⟨u1, u2, u3⟩ := t2 _ hm (by omega)
 rw [e1, e3, g1, g3, if_neg u1]
 by_cases h1 : 1 < (aW L (scS L a b c d cone)).2
 ·rw [if_pos h1]; exact .inr rfl
 ·have h2 : (aW L (scS L a b c d cone)).2 = 1 := by omega
  rw [if_neg h1, if_pos h2]
  refine .inl ⟨rfl, (u3 h2 ?_).symm⟩
  have hg : (aW L (scS L a b c d cone)).1 ∈ cg (bs L (scS L a b c d cone)) (L.map (·.1)) (scS L a b c d cone).length [] := by
   rcases fm _ ([], 0) (fun _ => by decide) (show (aW L (scS L a b c d cone)).2 ≠ 0 by omega) with h | ⟨h, _⟩
   ·exact h
   ·exact absurd rfl h
  have := fV _ _ _ _ _ hg
  have e0 : aD ([] : List Int) = 0 := rfl
  rw [e0, fJ] at this
  omega
theorem rF {a b c d : Int} (ht : aC a b c d = true) (h1 : -2 ≤ a ∧ a ≤ 2) (h2 : -2 ≤ b ∧ b ≤ 2) (h3 : -2 ≤ c ∧ c ≤ 2) (h4 : -2 ≤ d ∧ d ≤ 2) : (a, b, c, d) ∈ ax 625 := by
 unfold ax
 refine List.mem_filter.2 ⟨List.mem_map.2 ⟨((a + 2) * 125 + (b + 2) * 25 + (c + 2) * 5 + (d + 2)).toNat, List.mem_range.2 (by omega), ?_⟩, ht⟩
 unfold tOf
 have e : ((((a + 2) * 125 + (b + 2) * 25 + (c + 2) * 5 + (d + 2)).toNat : Nat) : Int) = (a + 2) * 125 + (b + 2) * 25 + (c + 2) * 5 + (d + 2) := by omega
 rw [e]
 have q1 : ((a + 2) * 125 + (b + 2) * 25 + (c + 2) * 5 + (d + 2)) / 125 - 2 = a := by omega
 have q2 : ((a + 2) * 125 + (b + 2) * 25 + (c + 2) * 5 + (d + 2)) / 25 % 5 - 2 = b := by omega
 have q3 : ((a + 2) * 125 + (b + 2) * 25 + (c + 2) * 5 + (d + 2)) / 5 % 5 - 2 = c := by omega
 have q4 : ((a + 2) * 125 + (b + 2) * 25 + (c + 2) * 5 + (d + 2)) % 5 - 2 = d := by omega
 rw [q1, q2, q3, q4]
theorem qy {x y z u v t : Int} (hs : aq x y z = true) (hu : aq u v t = true) (hc : y * t - z * v = 0 ∧ z * u - x * t = 0 ∧ x * v - y * u = 0) (hn : bv x y z u v t = false) : dot x y z u v t < 0 := by
 rcases Int.lt_or_le 0 (dot x y z u v t) with h | h
 ·rw [ks hs hu hc h] at hn; cases hn
 ·have hX := eV (aI.1 hs).2
  have hU := eV (aI.1 hu).2
  have e : dot x y z x y z * dot u v t u v t - dot x y z u v t * dot x y z u v t = (y * t - z * v) * (y * t - z * v) + (z * u - x * t) * (z * u - x * t) + (x * v - y * u) * (x * v - y * u) := by unfold dot; grind
  rw [hc.1, hc.2.1, hc.2.2] at e
  have hp := Int.mul_pos hX hU
  by_cases h0 : dot x y z u v t = 0
  ·rw [h0] at e
   simp at e
   omega
  ·omega
theorem rG {x y z u v t p q r : Int} (h1 : aq x y z = true) (h2 : aq u v t = true) (h3 : aq p q r = true) (n1 : bv x y z u v t = false) (n2 : bv x y z p q r = false) (n3 : bv u v t p q r = false) : ¬ (y * t - z * v = 0 ∧ z * u - x * t = 0 ∧ x * v - y * u = 0) ∨ ¬ (y * r - z * q = 0 ∧ z * p - x * r = 0 ∧ x * q - y * p = 0) := by
 by_cases c1 : y * t - z * v = 0 ∧ z * u - x * t = 0 ∧ x * v - y * u = 0
 ·by_cases c2 : y * r - z * q = 0 ∧ z * p - x * r = 0 ∧ x * q - y * p = 0
  ·exfalso
   have d1 := qy h1 h2 c1 n1
   have d2 := qy h1 h3 c2 n2
   have hz := (aI.1 h1).2
   obtain ⟨a1, a2, a3⟩ := c1
   obtain ⟨b1, b2, b3⟩ := c2
   have m1 : dot (-x) (-y) (-z) u v t = -dot x y z u v t := by unfold dot; grind
   have m2 : dot (-x) (-y) (-z) p q r = -dot x y z p q r := by unfold dot; grind
   obtain ⟨cr, dp⟩ := gx (v1 := -x) (v2 := -y) (v3 := -z) (p1 := u) (p2 := v) (p3 := t) (q1 := p) (q2 := q) (q3 := r) (fun h => hz ⟨by omega, by omega, by omega⟩) (by grind) (by grind) (by grind) (by grind) (by grind) (by grind) (by omega) (by omega)
   rw [ks h2 h3 cr dp] at n3
   cases n3
  ·exact .inr c2
 ·exact .inl c1
theorem tC {L : List St} {a b c d : Int} (cone : Int) (hk : aL L = true) (ht : aC a b c d = true) (h3 : 3 ≤ (scI L a b c d cone).length) (h1 : -2 ≤ a ∧ a ≤ 2) (h2 : -2 ≤ b ∧ b ≤ 2) (h4 : -2 ≤ c ∧ c ≤ 2) (h5 : -2 ≤ d ∧ d ≤ 2) : eN L (scS L a b c d cone) (scI L a b c d cone) = ((a, b, c, d), 0) := by
 have hn := pg cone hk ht
 have h12 := (bm hk).1
 have h6 := (bc (iT (a := a) (b := b) (c := c) (d := d) cone hk ht)).1
 have hl := nO L a b c d cone
 have hr := List.pairwise_iff_getElem.1 (lu (a := a) (b := b) (c := c) (d := d) (cone := cone) hk)
 have hsl : ∀ k, k ≤ (scI L a b c d cone).length → (ap L (scS L a b c d cone) (scI L a b c d cone) k).length = k := by
  intro k
  induction k with
  | zero => intro _; rfl
  | succ k ih =>
   intro hk2
   obtain ⟨x, hx, ex, _⟩ := jO (a := a) (b := b) (c := c) (d := d) (cone := cone) hk (show k < (scI L a b c d cone).length by omega)
   rw [iW, ih (by omega), if_pos (by rw [ex]; exact pD hk hx)]
 have hs0 := hsl _ (Nat.le_refl _)
 rw [jl (by omega) hn (by rw [hs0]; omega)]
 have hbr : ∀ t : T4, bC (ap L (scS L a b c d cone) (scI L a b c d cone) (scI L a b c d cone).length) t = true → ∀ j, j < (scI L a b c d cone).length → ∀ x, x < L.length → aY L (scS L a b c d cone) (scI L a b c d cone) j = sgS L a b c d x → (scI L a b c d cone).getD j 0 = (stA L x).1 → aS (scV L a b c d (stA L x).1) (apD t.1 t.2.1 t.2.2.1 t.2.2.2 (stA L x).2) = true := by
  intro t he j hj x hx hs hi
  rw [← jB] at he
  have hb := List.all_eq_true.1 he j (List.mem_range.2 hj)
  rw [hi, decide_eq_false (pD hk hx), Bool.false_or, hs] at hb
  exact hb
 have hown : bC (ap L (scS L a b c d cone) (scI L a b c d cone) (scI L a b c d cone).length) (a, b, c, d) = true := by
  rw [← jB]
  refine jS (fun j hj => ?_)
  obtain ⟨x, hx, ex, sx⟩ := jO (a := a) (b := b) (c := c) (d := d) (cone := cone) hk hj
  rw [sx]
  have : bR (a, b, c, d) (sgS L a b c d x) = true := (lw hk ht hx).2
  rw [this, Bool.or_true]
 unfold dw
 cases hf : (ax 625).find? (bC (ap L (scS L a b c d cone) (scI L a b c d cone) (scI L a b c d cone).length)) with
 | none =>
  exfalso
  have := List.find?_eq_none.1 hf _ (rF ht h1 h2 h4 h5)
  exact this hown
 | some t =>
  have he := List.find?_some hf
  have hm := List.mem_of_find?_eq_some hf
  have htr : aC t.1 t.2.1 t.2.2.1 t.2.2.2 = true := by
   unfold ax at hm
   exact (List.mem_filter.1 hm).2
  obtain ⟨x, hx, ex, sx⟩ := jO (a := a) (b := b) (c := c) (d := d) (cone := cone) hk (show 0 < (scI L a b c d cone).length by omega)
  obtain ⟨y, hy, ey, sy⟩ := jO (a := a) (b := b) (c := c) (d := d) (cone := cone) hk (show 1 < (scI L a b c d cone).length by omega)
  obtain ⟨z, hz, ez, sz⟩ := jO (a := a) (b := b) (c := c) (d := d) (cone := cone) hk (show 2 < (scI L a b c d cone).length by omega)
  have o : ∀ i j, ∀ hi : i < L.length, ∀ hj : j < L.length, i ≠ j → bv (stA L i).2.1 (stA L i).2.2.1 (stA L i).2.2.2 (stA L j).2.1 (stA L j).2.2.1 (stA L j).2.2.2 = false := by
   intro i j hi hj hne
   rcases Nat.lt_or_gt_of_ne hne with h | h
   ·rw [gp (ej hk hi) (ej hk hj)]
    exact jx hk hj h
   ·exact jx hk hi h
  have ne : ∀ {i j : Nat} {x y : Nat}, i < j → ∀ hj : j < (scI L a b c d cone).length, (scI L a b c d cone).getD i 0 = (stA L x).1 → (scI L a b c d cone).getD j 0 = (stA L y).1 → x ≠ y := by
   intro i j x y hij hj h1 h2 e
   rw [e, ← h2, gz hj, gz (show i < (scI L a b c d cone).length by omega)] at h1
   have := hr i j (by omega) hj hij
   omega
  have bx := hbr t he 0 (by omega) x hx sx ex
  have b0 := hbr _ hown 0 (by omega) x hx sx ex
  have key : ∀ w, w < L.length → aS (scV L a b c d (stA L w).1) (apD t.1 t.2.1 t.2.2.1 t.2.2.2 (stA L w).2) = true → aS (scV L a b c d (stA L w).1) (apD a b c d (stA L w).2) = true → ¬ ((stA L x).2.2.1 * (stA L w).2.2.2 - (stA L x).2.2.2 * (stA L w).2.2.1 = 0 ∧ (stA L x).2.2.2 * (stA L w).2.1 - (stA L x).2.1 * (stA L w).2.2.2 = 0 ∧ (stA L x).2.1 * (stA L w).2.2.1 - (stA L x).2.2.1 * (stA L w).2.1 = 0) → t = (a, b, c, d) := by
   intro w hw s1 s2 hnl
   obtain ⟨q1, q2, q3, q4⟩ := sS htr ht hnl bx b0 s1 s2
   obtain ⟨t1, t2, t3, t4⟩ := t
   dsimp only at q1 q2 q3 q4
   rw [q1, q2, q3, q4]
  rcases rG (ej hk hx) (ej hk hy) (ej hk hz) (o x y hx hy (ne (by omega) (by omega) ex ey)) (o x z hx hz (ne (i := 0) (j := 2) (by omega) (by omega) ex ez)) (o y z hy hz (ne (i := 1) (j := 2) (by omega) (by omega) ey ez)) with h | h
  ·rw [key y hy (hbr t he 1 (by omega) y hy sy ey) (hbr _ hown 1 (by omega) y hy sy ey) h]
  ·rw [key z hz (hbr t he 2 (by omega) z hz sz ez) (hbr _ hown 2 (by omega) z hz sz ez) h]
end
section
open Go.RowKit Go.Sort
theorem ul (T : Array Value) (X : World) (b : Nat) (v0 v1 v2 v3 x y : Value) (hT2 : T.getD 2 undef = x) (hT : T.getD 3 undef = .pointer (some ⟨b, 0, none⟩)) (hT4 : T.getD 4 undef = y) (h : Blk X b [v0, v1, v2, v3] 34) : (results Tryz.f25 T).run Tryz.prog X = .ok (.tuple #[x, .agg #[v0, v1, v2, v3], y]) X := by
 obtain ⟨h0, h1, h2, h3⟩ := pu (h)
 simp only [Array.getD_eq_getD_getElem?] at hT hT2 hT4
 simp [results, Tryz.results25, go_sem, hT, hT2, hT4, h0, h1, h2, h3]
theorem gl (b : Nat) (w : World) (hS : aU b w) :
  Calls Tryz.prog 25 #[.pointer (some ⟨b, 0, none⟩)] w fun e w' => ∃ (L : List St) (sa : Option Addr) (sc : Nat) (A B C D : Int) (S : List D3) (pa : Option Addr) (pc : Nat), e = .returned (.tuple #[.slice sa L.length sc, .agg #[.int .i64 A, .int .i64 B, .int .i64 C, .int .i64 D], .slice pa S.length pc]) ∧ L.length ≤ 13 ∧ S.length ≤ 7 ∧ aE w' w.heap.size L sa sc ∧ w'.ownsRow w.heap.size 67 3 (.slice pa S.length pc) S.length (flL S) ∧ aU b w' ∧ w.grownBy w' (some b) := by
 have hlb := hS.lt
 have Z := ak w (.cells #[.int .i64 0, .int .i64 0, .int .i64 0, .int .i64 0] 34)
 have HR := yz (aO w [.int .i64 0, .int .i64 0, .int .i64 0, .int .i64 0] 34)
 have HS := yz (hS.below Z)
 have HG := yz (bS Z (some b))
 have hz : (w.alloc (.cells #[.int .i64 0, .int .i64 0, .int .i64 0, .int .i64 0] 34)).heap.size = w.heap.size + 1 := by simp
 clear hS Z
 go_enter Tryz.func25, Tryz.ntmps25
 go_upto_region 1 with fail
 generalize w.alloc (.cells #[.int .i64 0, .int .i64 0, .int .i64 0, .int .i64 0] 34) = W0 at *
 go_wp2_with fail
 refine (lc b W0 (yy HS)).mono ?_
 rintro e W1 ⟨L, sa, sc, rfl, hl, hK⟩
 have hnb : some w.heap.size ≠ some b := fun e => by have := Option.some.inj e; omega
 have hb0 : b < W0.heap.size := by omega
 replace HR := yz (aG (yy HR) hK.gr hnb)
 replace HG := yz (an (yy HG) hK.gr)
 have HC := yz hK.row
 replace HS := yz hK.src
 have hz1 := hK.gr.size
 clear hK
 go_wp2_with fail
 refine (gk b W1 (yy HS)).mono ?_
 rintro e W2 ⟨A, B, C, D, rfl, hS2, hg2⟩
 replace HR := yz (aG (yy HR) hg2 hnb)
 replace HG := yz (an (yy HG) hg2)
 replace HC : Hid (aE W2 W0.heap.size L sa sc) := yz (World.ownsRow.kept (yy HC) hg2 (sN (yy HC) hb0))
 replace HS := yz hS2
 have hz2 := hg2.size
 clear hS2 hg2
 have hy := ak W2 (.cells #[.int .i64 A, .int .i64 B, .int .i64 C, .int .i64 D] 34)
 have HU := yz (aO W2 [.int .i64 A, .int .i64 B, .int .i64 C, .int .i64 D] 34)
 replace HR := yz ((yy HR).kept hy)
 replace HG := yz (an (yy HG) (bS hy _))
 replace HC : Hid (aE _ W0.heap.size L sa sc) := yz ((yy HC).kept hy)
 replace HS := yz ((yy HS).below hy)
 have hz3 : (W2.alloc (.cells #[.int .i64 A, .int .i64 B, .int .i64 C, .int .i64 D] 34)).heap.size = W2.heap.size + 1 := by simp
 clear hy
 go_upto_region 3 with fail
 generalize W2.alloc (.cells #[.int .i64 A, .int .i64 B, .int .i64 C, .int .i64 D] 34) = W3 at *
 generalize W2.heap.size = ub at *
 have hub : b < ub := by omega
 have hwub : w.heap.size < ub := by omega
 have HKS : Hid (∀ w' : World, Blk w' ub [.int .i64 A, .int .i64 B, .int .i64 C, .int .i64 D] 34 → w'.cell? ⟨ub, 0, none⟩ = some (.int .i64 A) ∧ w'.cell? ⟨ub, 1, none⟩ = some (.int .i64 B) ∧ w'.cell? ⟨ub, 2, none⟩ = some (.int .i64 C) ∧ w'.cell? ⟨ub, 3, none⟩ = some (.int .i64 D)) := yz (fun w' hu => ⟨hu.cell 0 _ rfl, hu.cell 1 _ rfl, hu.cell 2 _ rfl, hu.cell 3 _ rfl⟩)
 refine wp_region_held_drew (S := (fun w' => w'.cell? ⟨ub, 0, none⟩ = some (.int .i64 A) ∧ w'.cell? ⟨ub, 1, none⟩ = some (.int .i64 B) ∧ w'.cell? ⟨ub, 2, none⟩ = some (.int .i64 C) ∧ w'.cell? ⟨ub, 3, none⟩ = some (.int .i64 D))) (by kernel_rfl) (yy HKS W3.drew (yy HU)) (fun hHeld => ?_)
 refine ab 0 rfl ?_
 try simp only [Act.put, ag, ah, ai]
 refine ab 1 rfl ?_
 try simp only [Act.put, ag, ah, ai]
 refine ab 2 rfl ?_
 try simp only [Act.put, ag, ah, ai]
 refine ab 3 rfl ?_
 try simp only [Act.put, ag, ah, ai]
 refine ab 4 rfl ?_
 try simp only [Act.put, ag, ah, ai]
 replace HR : Hid (Blk W3.drew _ _ _) := HR
 replace HU : Hid (Blk W3.drew _ _ _) := HU
 replace HS := yz ((yy HS).below (Below.refl W3.heap.size W3).drew)
 replace HC := yz ((yy HC).kept (Below.refl W3.heap.size W3).drew)
 replace HG := yz (an (yy HG) (bS (Below.refl W3.heap.size W3).drew _))
 have hz5 : ub + 1 ≤ W3.drew.heap.size := by have : W3.drew.heap.size = W3.heap.size := rfl; omega
 obtain ⟨V0, HYY⟩ : ∃ YY, YY = W3.drew := ⟨_, rfl⟩
 rw [← HYY] at HR HU HS HC HG hHeld hz5 ⊢
 clear HYY
 refine ae 5 rfl fun K hK => ?_
 go_simp
 refine (nz b V0 L sa sc A B C D (yy HS) (by omega) (yy HC).stars (fun x e => by have h1 := (bX (yy HC) x e).1; omega)).mono ?_
 rintro e V1 ⟨S, pa, pc, rfl, hsl, hP⟩
 replace HR := yz (aG (yy HR) hP.gr hnb)
 replace HU := yz (aG (yy HU) hP.gr (fun e => by have := Option.some.inj e; omega))
 replace HC : Hid (aE V1 W0.heap.size L sa sc) := yz (World.ownsRow.kept (yy HC) hP.gr (sN (yy HC) hb0))
 replace HG := yz (an (yy HG) hP.gr)
 replace HS := yz hP.src
 have HSP := yz (World.ownsRow.mono hP.row (show w.heap.size ≤ V0.heap.size + 1 by omega))
 clear hP
 refine hK.out _ _ (yy HKS _ (yy HU)) (fun hHeld2 => ?_)
 clear hK K hHeld
 have hHeld := hHeld2
 clear hHeld2
 refine ae 6 rfl fun K hK => ?_
 go_simp
 refine hK.out _ _ (yy HKS _ (yy HU)) (fun hHeld2 => ?_)
 clear hK K hHeld
 have hHeld := hHeld2
 clear hHeld2
 refine ae 7 rfl fun K hK => ?_
 obtain ⟨y0, y1, y2, y3⟩ : V1.cell? ⟨w.heap.size, 0, none⟩ = some (.int .i64 0) ∧ V1.cell? ⟨w.heap.size, 1, none⟩ = some (.int .i64 0) ∧ V1.cell? ⟨w.heap.size, 2, none⟩ = some (.int .i64 0) ∧ V1.cell? ⟨w.heap.size, 3, none⟩ = some (.int .i64 0) := ⟨(yy HR).cell 0 _ rfl, (yy HR).cell 1 _ rfl, (yy HR).cell 2 _ rfl, (yy HR).cell 3 _ rfl⟩
 obtain ⟨z0, z1, z2, z3⟩ : V1.frozen? ⟨w.heap.size, 0, none⟩ = false ∧ V1.frozen? ⟨w.heap.size, 1, none⟩ = false ∧ V1.frozen? ⟨w.heap.size, 2, none⟩ = false ∧ V1.frozen? ⟨w.heap.size, 3, none⟩ = false := ⟨(yy HR).free 0, (yy HR).free 1, (yy HR).free 2, (yy HR).free 3⟩
 have hraw := yy HR
 go_simp
 have hgq := fa V1 w.heap.size (.int .i64 A) (.int .i64 B) (.int .i64 C) (.int .i64 D)
 replace HR := yz (jE (yy HR) (.int .i64 A) (.int .i64 B) (.int .i64 C) (.int .i64 D))
 replace HU := yz (aG (yy HU) hgq (fun e => by have h1 := Option.some.inj e; omega))
 replace HC : Hid (aE _ W0.heap.size L sa sc) := yz (World.ownsRow.kept (yy HC) hgq (dj (yy HC) hraw (by decide)))
 replace HSP := yz (World.ownsRow.kept (yy HSP) hgq (dj (yy HSP) hraw (by decide)))
 replace HG := yz (eP (yy HG) hgq (fun g e => by have h1 := Option.some.inj e; omega))
 replace HS := yz ((yy HS).kept hgq (fun g e => by have h1 := Option.some.inj e; omega))
 refine hK.out _ _ (yy HKS _ (yy HU)) (fun hHeld2 => ?_)
 clear hK K hHeld hgq hraw y0 y1 y2 y3 z0 z1 z2 z3
 have hHeld := hHeld2
 clear hHeld2
 generalize ((((V1.setCell ⟨w.heap.size, 0, none⟩ (.int .i64 A)).setCell ⟨w.heap.size, 1, none⟩ (.int .i64 B)).setCell ⟨w.heap.size, 2, none⟩ (.int .i64 C)).setCell ⟨w.heap.size, 3, none⟩ (.int .i64 D)) = V2 at *
 refine ae 8 rfl fun K hK => ?_
 go_simp
 refine hK.out _ _ (yy HKS _ (yy HU)) (fun hHeld2 => ?_)
 clear hK K hHeld hHeld2
 refine wpAnyH_done (by kernel_rfl) ?_ _
 go_wp2_with fail
 refine bodyPost_ret (v := .tuple #[.slice sa L.length sc, .agg #[.int .i64 A, .int .i64 B, .int .i64 C, .int .i64 D], .slice pa S.length pc]) (ul _ _ w.heap.size _ _ _ _ _ _ rfl rfl rfl (yy HR)) rfl ⟨L, sa, sc, A, B, C, D, S, pa, pc, rfl, hl, hsl, World.ownsRow.mono (yy HC) (by omega), yy HSP, yy HS, yy HG⟩
theorem ji (ca : Option Addr) (len cc : Nat) (w : World) (hl : len ≤ 1048576) (hR : Row w ca len w.heap.size) :
  Calls Tryz.prog 4 #[.slice ca len cc] w fun e w' => ∃ (L : List St) (sa : Option Addr) (sc : Nat) (S : List D3) (pa : Option Addr) (pc : Nat), e = .returned (.tuple #[.slice sa L.length sc, .slice pa S.length pc]) ∧ L.length ≤ 13 ∧ S.length ≤ 7 ∧ aE w' w.heap.size L sa sc ∧ w'.ownsRow w.heap.size 67 3 (.slice pa S.length pc) S.length (flL S) ∧ Below w.heap.size w w' := by
 have cS := yz (fL ca len cc w hl hR)
 clear hR
 go_enter Tryz.func4, Tryz.ntmps4
 go_wp2_with fail
 refine (yy cS).mono ?_
 rintro e W1 ⟨rfl, hS1, hx⟩
 have HB1 := yz hx
 have HS1 := yz hS1
 clear hx hS1 cS
 go_wp2_with fail
 refine (gl w.heap.size W1 (yy HS1)).mono ?_
 rintro e W2 ⟨L, sa, sc, A, B, C, D, S, pa, pc, rfl, hll, hsl, hC, hP, hS2, hg2⟩
 have hlt := (yy HS1).lt
 have HB2 := yz (bJ (yy HB1) hg2 (yy HB1).size (fun q e => by have := Option.some.inj e; omega))
 have hy := ak W2 (.cells #[.int .i64 A, .int .i64 B, .int .i64 C, .int .i64 D] 34)
 have HC := yz (hC.kept hy)
 have HP := yz (au hP hy)
 have HB := yz (aj (yy HB2) hy)
 clear hy hC hP hS2 hg2 HB1 HS1 HB2
 go_upto_region 2 with fail
 generalize W2.alloc (.cells #[.int .i64 A, .int .i64 B, .int .i64 C, .int .i64 D] 34) = W3 at *
 go_wp2_with fail
 go_ret2
 exact ⟨L, sa, sc, S, pa, pc, rfl, hll, hsl, World.ownsRow.mono (yy HC) (by omega), World.ownsRow.mono (yy HP) (by omega), yy HB⟩
theorem up (V : World) (m : Nat) (hm : m < 6) : ∃ z : Int, (V.alloc (.cells #[.int .i64 0, .int .i64 1, .int .i64 2, .int .i64 10, .int .i64 99, .int .i64 (-1)] 2)).cell? ⟨V.heap.size, m, none⟩ = some (.int .i64 z) := by
 have h := aO V [.int .i64 0, .int .i64 1, .int .i64 2, .int .i64 10, .int .i64 99, .int .i64 (-1)] 2
 rcases (by omega : m = 0 ∨ m = 1 ∨ m = 2 ∨ m = 3 ∨ m = 4 ∨ m = 5) with rfl | rfl | rfl | rfl | rfl | rfl
 ·exact ⟨_, h.cell 0 _ rfl⟩
 ·exact ⟨_, h.cell 1 _ rfl⟩
 ·exact ⟨_, h.cell 2 _ rfl⟩
 ·exact ⟨_, h.cell 3 _ rfl⟩
 ·exact ⟨_, h.cell 4 _ rfl⟩
 ·exact ⟨_, h.cell 5 _ rfl⟩
theorem ed {w : World} {B b m n : Nat} {t : TypeId} {v : Value} {xs : List Value} (h : w.ownsRow B t m v n xs) (hb : b < B) : v.ownBlock = none ∨ v.ownBlock ≠ some b := by
 cases e : v.ownBlock with
 | none => exact .inl rfl
 | some g => exact .inr (fun e2 => by have h1 := (h.lt g e).1; have h2 := Option.some.inj e2; omega)
structure gV (w : World) (b B : Nat) (wr : World) (L : List St) (sa : Option Addr) (sc : Nat) (S : List D3) (pa : Option Addr) (pc : Nat) (I : List Int) (ia : Option Addr) (ic : Nat) : Prop where
 src : aU b wr
 sky : aE wr B L sa sc
 spt : wr.ownsRow B 67 3 (.slice pa S.length pc) S.length (flL S)
 ids : wr.ownsRow B 2 1 (.slice ia I.length ic) I.length (bu I)
 bel : Below w.heap.size w wr
 lb : w.heap.size ≤ b
 bB : b < B
 wB : w.heap.size ≤ B
theorem gV.call {w : World} {b B : Nat} {wr : World} {L : List St} {sa : Option Addr} {sc : Nat} {S : List D3} {pa : Option Addr} {pc : Nat} {I : List Int} {ia : Option Addr} {ic : Nat} {w2 : World} (h : gV w b B wr L sa sc S pa pc I ia ic) (hS : aU b w2) (hg : wr.grownBy w2 (some b)) : gV w b B w2 L sa sc S pa pc I ia ic :=
 ⟨hS, World.ownsRow.kept h.sky hg (ed h.sky h.bB), World.ownsRow.kept h.spt hg (ed h.spt h.bB), World.ownsRow.kept h.ids hg (ed h.ids h.bB), bJ h.bel hg h.bel.size (fun g e => by have := Option.some.inj e; have := h.lb; omega), h.lb, h.bB, h.wB⟩
theorem gV.below {w : World} {b B : Nat} {wr : World} {L : List St} {sa : Option Addr} {sc : Nat} {S : List D3} {pa : Option Addr} {pc : Nat} {I : List Int} {ia : Option Addr} {ic : Nat} {w2 : World} (h : gV w b B wr L sa sc S pa pc I ia ic) (hx : Below wr.heap.size wr w2) : gV w b B w2 L sa sc S pa pc I ia ic :=
 ⟨h.src.below hx, au h.sky hx, au h.spt hx, au h.ids hx, aj h.bel hx, h.lb, h.bB, h.wB⟩
theorem gV.mv {w : World} {b B : Nat} {wr : World} {L : List St} {sa : Option Addr} {sc : Nat} {S : List D3} {pa : Option Addr} {pc : Nat} {I : List Int} {ia : Option Addr} {ic : Nat} {w2 : World} {I2 : List Int} {i2 : Option Addr} {c2 : Nat} (h : gV w b B wr L sa sc S pa pc I ia ic) (hg : wr.grownBy w2 (Value.slice ia I.length ic).ownBlock) (hr : w2.ownsRow B 2 1 (.slice i2 I2.length c2) I2.length (bu I2)) : gV w b B w2 L sa sc S pa pc I2 i2 c2 :=
 ⟨h.src.kept hg (fun g e => by have := (h.ids.lt g e).1; have := h.bB; omega), World.ownsRow.kept h.sky hg (kr h.sky h.ids (by decide)), World.ownsRow.kept h.spt hg (kr h.spt h.ids (by decide)), hr, bJ h.bel hg h.bel.size (fun g e => by have := (h.ids.lt g e).1; have := h.wB; omega), h.lb, h.bB, h.wB⟩
theorem gV.put {w : World} {b B : Nat} {wr : World} {L : List St} {sa : Option Addr} {sc : Nat} {S : List D3} {pa : Option Addr} {pc : Nat} {I : List Int} {g : Nat} {ic : Nat} (h : gV w b B wr L sa sc S pa pc I (some ⟨g, 0, none⟩) ic) (k : Nat) (z : Int) : gV w b B (wr.setCell ⟨g, k, none⟩ (.int .i64 z)) L sa sc S pa pc (I.set k z) (some ⟨g, 0, none⟩) ic := by
 have hs := World.ownsRow.stored h.ids k (.int .i64 z)
 refine h.mv hs.2 ?_
 have h1 := hs.1
 rw [show (bu I).set k (.int .i64 z) = bu (I.set k z) by unfold bu; rw [List.map_set]] at h1
 rw [List.length_set]
 exact h1
theorem gV.add {w : World} {b B : Nat} {wr : World} {L : List St} {sa : Option Addr} {sc : Nat} {S : List D3} {pa : Option Addr} {pc : Nat} {I : List Int} {ia : Option Addr} {ic : Nat} {w2 : World} {x : Int} {v2 : Value} (h : gV w b B wr L sa sc S pa pc I ia ic) (hg : wr.grownBy w2 (Value.slice ia I.length ic).ownBlock) (hr : w2.ownsRow B 2 1 v2 (I.length + 1) (bu I ++ [.int .i64 x])) : ∃ i2 c2, v2 = .slice i2 (I.length + 1) c2 ∧ gV w b B w2 L sa sc S pa pc (I ++ [x]) i2 c2 := by
 obtain ⟨i2, c2, rfl, _⟩ := eq hr
 refine ⟨i2, c2, rfl, h.mv hg ?_⟩
 rw [show (I ++ [x]).length = I.length + 1 by simp, show bu (I ++ [x]) = bu I ++ [.int .i64 x] by simp [bu]]
 exact hr
theorem sH (T : Array Value) (X : World) (b : Nat) (v0 v1 v2 v3 x y : Value) (hT2 : T.getD 2 undef = x) (hT : T.getD 3 undef = .pointer (some ⟨b, 0, none⟩)) (hT4 : T.getD 4 undef = y) (h : Blk X b [v0, v1, v2, v3] 34) : (results Tryz.f7 T).run Tryz.prog X = .ok (.tuple #[x, .agg #[v0, v1, v2, v3], y]) X := by
 obtain ⟨h0, h1, h2, h3⟩ := pu (h)
 simp only [Array.getD_eq_getD_getElem?] at hT hT2 hT4
 simp [results, Tryz.results7, go_sem, hT, hT2, hT4, h0, h1, h2, h3]
theorem kb (ca : Option Addr) (len cc : Nat) (w : World) (hl : len ≤ 1048576) (hR : Row w ca len w.heap.size) :
  Calls Tryz.prog 7 #[.slice ca len cc] w fun e w' => ∃ (L : List St) (sa : Option Addr) (sc : Nat) (A B C D : Int) (S : List D3) (pa : Option Addr) (pc : Nat), e = .returned (.tuple #[.slice sa L.length sc, .agg #[.int .i64 A, .int .i64 B, .int .i64 C, .int .i64 D], .slice pa S.length pc]) ∧ L.length ≤ 13 ∧ S.length ≤ 7 ∧ aE w' w.heap.size L sa sc ∧ w'.ownsRow w.heap.size 67 3 (.slice pa S.length pc) S.length (flL S) ∧ Below w.heap.size w w' := by
 have Z := ak w (.cells #[.int .i64 0, .int .i64 0, .int .i64 0, .int .i64 0] 34)
 have HR := yz (aO w [.int .i64 0, .int .i64 0, .int .i64 0, .int .i64 0] 34)
 have hz : (w.alloc (.cells #[.int .i64 0, .int .i64 0, .int .i64 0, .int .i64 0] 34)).heap.size = w.heap.size + 1 := by simp
 have cS := yz (fL ca len cc (w.alloc (.cells #[.int .i64 0, .int .i64 0, .int .i64 0, .int .i64 0] 34)) hl (hR.upI Z.size Z.block))
 have HB := yz Z
 rw [hz] at cS
 clear hR Z
 go_enter Tryz.func7, Tryz.ntmps7
 go_upto_region 1 with fail
 generalize w.alloc (.cells #[.int .i64 0, .int .i64 0, .int .i64 0, .int .i64 0] 34) = W0 at *
 go_wp2_with fail
 refine (yy cS).mono ?_
 rintro e W1 ⟨rfl, hS1, hx⟩
 rw [← hz] at hx
 replace HR := yz ((yy HR).kept hx)
 replace HB := yz (aj (yy HB) hx)
 have HS1 := yz hS1
 have hlt : w.heap.size + 1 < W1.heap.size := hS1.lt
 clear hx hS1 cS
 have hnb : some w.heap.size ≠ some (w.heap.size + 1) := fun e => by have := Option.some.inj e; omega
 go_wp2_with fail
 refine (gl (w.heap.size + 1) W1 (yy HS1)).mono ?_
 rintro e W2 ⟨L, sa, sc, A, B, C, D, S, pa, pc, rfl, hll, hsl, hC, hP, hS2, hg2⟩
 replace HR := yz (aG (yy HR) hg2 hnb)
 replace HB := yz (bJ (yy HB) hg2 (yy HB).size (fun q e => by have := Option.some.inj e; omega))
 have HC := yz hC
 have HP := yz hP
 have HS := yz hS2
 have hz2 := hg2.size
 clear hC hP hS2 hg2 HS1
 have hy := ak W2 (.cells #[.int .i64 A, .int .i64 B, .int .i64 C, .int .i64 D] 34)
 have HU := yz (aO W2 [.int .i64 A, .int .i64 B, .int .i64 C, .int .i64 D] 34)
 replace HR := yz ((yy HR).kept hy)
 replace HB := yz (aj (yy HB) hy)
 replace HC : Hid (aE _ W1.heap.size L sa sc) := yz ((yy HC).kept hy)
 replace HP := yz (au (yy HP) hy)
 replace HS := yz ((yy HS).below hy)
 have hz3 : (W2.alloc (.cells #[.int .i64 A, .int .i64 B, .int .i64 C, .int .i64 D] 34)).heap.size = W2.heap.size + 1 := by simp
 clear hy
 go_upto_region 3 with fail
 generalize W2.alloc (.cells #[.int .i64 A, .int .i64 B, .int .i64 C, .int .i64 D] 34) = W3 at *
 generalize W2.heap.size = ub at *
 go_wp2_with fail
 refine (bh (w.heap.size + 1) 5 W3 (yy HS) (by omega)).mono ?_
 rintro e W4 ⟨y, rfl, hS4, hg4⟩
 replace HR := yz (aG (yy HR) hg4 hnb)
 replace HU := yz (aG (yy HU) hg4 (fun e => by have := Option.some.inj e; omega))
 replace HB := yz (bJ (yy HB) hg4 (yy HB).size (fun q e => by have := Option.some.inj e; omega))
 replace HC : Hid (aE W4 W1.heap.size L sa sc) := yz (World.ownsRow.kept (yy HC) hg4 (ed (yy HC) hlt))
 replace HP := yz (World.ownsRow.kept (yy HP) hg4 (ed (yy HP) hlt))
 replace HS := yz hS4
 have hz4 := hg4.size
 clear hS4 hg4
 cases y
 ·go_upto_region 5 with fail
  have HKS : Hid (∀ w' : World, Blk w' ub [.int .i64 A, .int .i64 B, .int .i64 C, .int .i64 D] 34 → w'.cell? ⟨ub, 0, none⟩ = some (.int .i64 A) ∧ w'.cell? ⟨ub, 1, none⟩ = some (.int .i64 B) ∧ w'.cell? ⟨ub, 2, none⟩ = some (.int .i64 C) ∧ w'.cell? ⟨ub, 3, none⟩ = some (.int .i64 D)) := yz (fun w' hu => ⟨hu.cell 0 _ rfl, hu.cell 1 _ rfl, hu.cell 2 _ rfl, hu.cell 3 _ rfl⟩)
  refine wp_region_held_drew (S := (fun w' => w'.cell? ⟨ub, 0, none⟩ = some (.int .i64 A) ∧ w'.cell? ⟨ub, 1, none⟩ = some (.int .i64 B) ∧ w'.cell? ⟨ub, 2, none⟩ = some (.int .i64 C) ∧ w'.cell? ⟨ub, 3, none⟩ = some (.int .i64 D))) (by kernel_rfl) (yy HKS W4.drew (yy HU)) (fun hHeld => ?_)
  refine ab 0 rfl ?_
  try simp only [Act.put, ag, ah, ai]
  refine ab 1 rfl ?_
  try simp only [Act.put, ag, ah, ai]
  refine ab 2 rfl ?_
  try simp only [Act.put, ag, ah, ai]
  replace HR : Hid (Blk W4.drew _ _ _) := HR
  replace HU : Hid (Blk W4.drew _ _ _) := HU
  replace HC : Hid (aE _ W1.heap.size L sa sc) := yz ((yy HC).kept (Below.refl W4.heap.size W4).drew)
  replace HP := yz (au (yy HP) (Below.refl W4.heap.size W4).drew)
  replace HB := yz (aj (yy HB) (Below.refl W4.heap.size W4).drew)
  obtain ⟨V1, HYY⟩ : ∃ YY, YY = W4.drew := ⟨_, rfl⟩
  rw [← HYY] at HR HU HC HP HB hHeld ⊢
  clear HYY
  refine ae 3 rfl fun K hK => ?_
  go_simp
  refine hK.out _ _ (yy HKS _ (yy HU)) (fun hHeld2 => ?_)
  clear hK K hHeld
  have hHeld := hHeld2
  clear hHeld2
  refine ae 4 rfl fun K hK => ?_
  obtain ⟨y0, y1, y2, y3⟩ : V1.cell? ⟨w.heap.size, 0, none⟩ = some (.int .i64 0) ∧ V1.cell? ⟨w.heap.size, 1, none⟩ = some (.int .i64 0) ∧ V1.cell? ⟨w.heap.size, 2, none⟩ = some (.int .i64 0) ∧ V1.cell? ⟨w.heap.size, 3, none⟩ = some (.int .i64 0) := ⟨(yy HR).cell 0 _ rfl, (yy HR).cell 1 _ rfl, (yy HR).cell 2 _ rfl, (yy HR).cell 3 _ rfl⟩
  obtain ⟨z0, z1, z2, z3⟩ : V1.frozen? ⟨w.heap.size, 0, none⟩ = false ∧ V1.frozen? ⟨w.heap.size, 1, none⟩ = false ∧ V1.frozen? ⟨w.heap.size, 2, none⟩ = false ∧ V1.frozen? ⟨w.heap.size, 3, none⟩ = false := ⟨(yy HR).free 0, (yy HR).free 1, (yy HR).free 2, (yy HR).free 3⟩
  have hraw := yy HR
  go_simp
  have hgq := fa V1 w.heap.size (.int .i64 A) (.int .i64 B) (.int .i64 C) (.int .i64 D)
  replace HR := yz (jE (yy HR) (.int .i64 A) (.int .i64 B) (.int .i64 C) (.int .i64 D))
  replace HU := yz (aG (yy HU) hgq (fun e => by have h1 := Option.some.inj e; omega))
  replace HC : Hid (aE _ W1.heap.size L sa sc) := yz (World.ownsRow.kept (yy HC) hgq (dj (yy HC) hraw (by decide)))
  replace HP := yz (World.ownsRow.kept (yy HP) hgq (dj (yy HP) hraw (by decide)))
  replace HB := yz (bJ (yy HB) hgq (yy HB).size (fun q e => by have h1 := Option.some.inj e; omega))
  refine hK.out _ _ (yy HKS _ (yy HU)) (fun hHeld2 => ?_)
  clear hK K hHeld hgq hraw y0 y1 y2 y3 z0 z1 z2 z3
  have hHeld := hHeld2
  clear hHeld2
  generalize ((((V1.setCell ⟨w.heap.size, 0, none⟩ (.int .i64 A)).setCell ⟨w.heap.size, 1, none⟩ (.int .i64 B)).setCell ⟨w.heap.size, 2, none⟩ (.int .i64 C)).setCell ⟨w.heap.size, 3, none⟩ (.int .i64 D)) = V2 at *
  refine ae 5 rfl fun K hK => ?_
  go_simp
  refine hK.out _ _ (yy HKS _ (yy HU)) (fun hHeld2 => ?_)
  clear hK K hHeld hHeld2
  refine wpAnyH_done (by kernel_rfl) ?_ _
  go_wp2_with fail
  refine bodyPost_ret (v := .tuple #[.slice sa L.length sc, .agg #[.int .i64 A, .int .i64 B, .int .i64 C, .int .i64 D], .slice pa S.length pc]) (sH _ _ w.heap.size _ _ _ _ _ _ rfl rfl rfl (yy HR)) rfl ⟨L, sa, sc, A, B, C, D, S, pa, pc, rfl, hll, hsl, World.ownsRow.mono (yy HC) (by omega), World.ownsRow.mono (yy HP) (by omega), yy HB⟩
 ·go_wp2_with fail
  refine (gk (w.heap.size + 1) W4 (yy HS)).mono ?_
  rintro e W5 ⟨q1, q2, q3, q4, rfl, hS5, hg5⟩
  replace HR := yz (aG (yy HR) hg5 hnb)
  replace HB := yz (bJ (yy HB) hg5 (yy HB).size (fun q e => by have := Option.some.inj e; omega))
  replace HC : Hid (aE W5 W1.heap.size L sa sc) := yz (World.ownsRow.kept (yy HC) hg5 (ed (yy HC) hlt))
  replace HP := yz (World.ownsRow.kept (yy HP) hg5 (ed (yy HP) hlt))
  clear hS5 hg5 HU HS
  obtain ⟨y0, y1, y2, y3⟩ : W5.cell? ⟨w.heap.size, 0, none⟩ = some (.int .i64 0) ∧ W5.cell? ⟨w.heap.size, 1, none⟩ = some (.int .i64 0) ∧ W5.cell? ⟨w.heap.size, 2, none⟩ = some (.int .i64 0) ∧ W5.cell? ⟨w.heap.size, 3, none⟩ = some (.int .i64 0) := ⟨(yy HR).cell 0 _ rfl, (yy HR).cell 1 _ rfl, (yy HR).cell 2 _ rfl, (yy HR).cell 3 _ rfl⟩
  obtain ⟨z0, z1, z2, z3⟩ : W5.frozen? ⟨w.heap.size, 0, none⟩ = false ∧ W5.frozen? ⟨w.heap.size, 1, none⟩ = false ∧ W5.frozen? ⟨w.heap.size, 2, none⟩ = false ∧ W5.frozen? ⟨w.heap.size, 3, none⟩ = false := ⟨(yy HR).free 0, (yy HR).free 1, (yy HR).free 2, (yy HR).free 3⟩
  have hgq := fa W5 w.heap.size (.int .i64 q1) (.int .i64 q2) (.int .i64 q3) (.int .i64 q4)
  have HRn := yz (jE (yy HR) (.int .i64 q1) (.int .i64 q2) (.int .i64 q3) (.int .i64 q4))
  have HCn : Hid (aE _ W1.heap.size L sa sc) := yz (World.ownsRow.kept (yy HC) hgq (dj (yy HC) (yy HR) (by decide)))
  have HPn := yz (World.ownsRow.kept (yy HP) hgq (dj (yy HP) (yy HR) (by decide)))
  have HBn := yz (bJ (yy HB) hgq (yy HB).size (fun q e => by have h1 := Option.some.inj e; omega))
  clear hgq
  go_wp2_with fail
  refine bodyPost_ret (v := .tuple #[.slice sa L.length sc, .agg #[.int .i64 q1, .int .i64 q2, .int .i64 q3, .int .i64 q4], .slice pa S.length pc]) (sH _ _ w.heap.size _ _ _ _ _ _ rfl rfl rfl (yy HRn)) rfl ⟨L, sa, sc, q1, q2, q3, q4, S, pa, pc, rfl, hll, hsl, World.ownsRow.mono (yy HCn) (by omega), World.ownsRow.mono (yy HPn) (by omega), yy HBn⟩
theorem ie (ca : Option Addr) (len cc : Nat) (w : World) (hl : len ≤ 1048576) (hR : Row w ca len w.heap.size) :
  Calls Tryz.prog 6 #[.slice ca len cc] w fun e w' => ∃ (L : List St) (sa : Option Addr) (sc : Nat) (S : List D3) (pa : Option Addr) (pc : Nat) (I : List Int) (ia : Option Addr) (ic : Nat), e = .returned (.tuple #[.slice sa L.length sc, .slice pa S.length pc, .slice ia I.length ic]) ∧ L.length ≤ 13 ∧ S.length ≤ 7 ∧ aE w' w.heap.size L sa sc ∧ w'.ownsRow w.heap.size 67 3 (.slice pa S.length pc) S.length (flL S) ∧ I.length ≤ 8 ∧ w'.ownsRow w.heap.size 2 1 (.slice ia I.length ic) I.length (bu I) ∧ Below w.heap.size w w' := by
 obtain ⟨j0, jinf, jz0, jz1, jz2⟩ := info_parts eQ
 have hm8 : 400 ≤ maxLen := by decide +kernel
 have cS := yz (fL ca len cc w hl hR)
 clear hR
 go_enter Tryz.func6, Tryz.ntmps6
 go_wp2_with fail
 refine (yy cS).mono ?_
 rintro e W1 ⟨rfl, hS1, hx⟩
 have HB := yz hx
 have HS1 := yz hS1
 have hlt := hS1.lt
 clear hx hS1 cS
 go_wp2_with fail
 refine (gl w.heap.size W1 (yy HS1)).mono ?_
 rintro e W2 ⟨L, sa, sc, A, B, C, D, S, pa, pc, rfl, hll, hsl, hC, hP, hS2, hg2⟩
 replace HB := yz (bJ (yy HB) hg2 (yy HB).size (fun q e => by have := Option.some.inj e; omega))
 have HC := yz hC
 have HP := yz hP
 have HS := yz hS2
 have hz2 := hg2.size
 clear hC hP hS2 hg2 HS1
 have hy := ak W2 (.cells #[.int .i64 A, .int .i64 B, .int .i64 C, .int .i64 D] 34)
 have HU := yz (aO W2 [.int .i64 A, .int .i64 B, .int .i64 C, .int .i64 D] 34)
 replace HB := yz (aj (yy HB) hy)
 replace HC : Hid (aE _ W1.heap.size L sa sc) := yz ((yy HC).kept hy)
 replace HP := yz (au (yy HP) hy)
 replace HS := yz ((yy HS).below hy)
 have hz3 : (W2.alloc (.cells #[.int .i64 A, .int .i64 B, .int .i64 C, .int .i64 D] 34)).heap.size = W2.heap.size + 1 := by simp
 clear hy
 go_upto_region 3 with fail
 generalize W2.alloc (.cells #[.int .i64 A, .int .i64 B, .int .i64 C, .int .i64 D] 34) = W3 at *
 generalize W2.heap.size = ub at *
 obtain ⟨y0, y1, y2, y3⟩ : W3.cell? ⟨ub, 0, none⟩ = some (.int .i64 A) ∧ W3.cell? ⟨ub, 1, none⟩ = some (.int .i64 B) ∧ W3.cell? ⟨ub, 2, none⟩ = some (.int .i64 C) ∧ W3.cell? ⟨ub, 3, none⟩ = some (.int .i64 D) := ⟨(yy HU).cell 0 _ rfl, (yy HU).cell 1 _ rfl, (yy HU).cell 2 _ rfl, (yy HU).cell 3 _ rfl⟩
 go_wp2_with fail
 refine (fQ L S sa pa sc pc A B C D W3 (by omega) (by omega) (yy HC).stars (ba (yy HP)).1).mono ?_
 rintro e W4 ⟨⟨v, rfl, hI⟩, hx⟩
 have hz4a := hx.size
 clear y0 y1 y2 y3
 have hml := mE L A B C D S
 obtain ⟨I, hIe⟩ : ∃ I, I = aX L A B C D S := ⟨_, rfl⟩
 rw [← hIe] at hI hml
 clear hIe
 obtain ⟨ia, ic, hv, _⟩ := eq hI
 subst hv
 have HN : Hid (gV w w.heap.size W1.heap.size W4 L sa sc S pa pc I ia ic) := yz ⟨(yy HS).below hx, au (yy HC) hx, au (yy HP) hx, World.ownsRow.mono hI (by omega), aj (yy HB) hx, Nat.le_refl _, hlt, by omega⟩
 clear hI hx HB HC HP HS HU
 go_wp2_with fail
 refine (bh w.heap.size 3 W4 (yy HN).src (by omega)).mono ?_
 rintro e W5 ⟨y, rfl, hS5, hg5⟩
 have hz5a := hg5.size
 replace HN := yz ((yy HN).call hS5 hg5)
 clear hS5 hg5
 have hz5 : W1.heap.size ≤ W5.heap.size := by omega
 by_cases hI0 : I.length = 0
 ·have hI1 : ¬ (0 : Int) < (I.length : Int) := by omega
  clear hI0
  cases y
  ·go_wp2_with fail
   refine (bh w.heap.size 15 _ (yy HN).src (by omega)).mono ?_
   rintro e W8 ⟨y8, rfl, hS8, hg8⟩
   have hB8 : W1.heap.size ≤ (W8.alloc (.cells #[.int .i64 0] 2)).heap.size := by have := hg8.size; simp; omega
   replace HN := yz ((yy HN).call hS8 hg8)
   clear hS8 hg8
   cases y8
   ·go_wp2_with fail
    go_ret3
    exact ⟨L, sa, sc, S, pa, pc, I, _, ic, rfl, hll, hsl, World.ownsRow.mono (yy HN).sky (by omega), World.ownsRow.mono (yy HN).spt (by omega), by omega, World.ownsRow.mono (yy HN).ids (by omega), (yy HN).bel⟩
   ·have hy := ak W8 (.cells #[.int .i64 0] 2)
    have HN0 := yz (aO W8 [.int .i64 0] 2)
    replace HN := yz ((yy HN).below hy)
    clear hy
    have hown := (yy HN).ids
    have hbase : W1.heap.size ≤ (W8.alloc (.cells #[.int .i64 0] 2)).heap.size := hB8
    go_wp2_with (at_builtin; refine wpList_append_own _ rfl _ _ 27 rfl W1.heap.size 2 j0 (.int .i64 0) 1 8 Tryz.underlying27 jinf jz0 jz1 jz2 rfl (by decide) _ _ _ rfl hown ⟨W8.heap.size, 0, none⟩ 1 1 [.int .i64 0] rfl rfl (fq (yy HN0)) ?c2 ?c3 ?c4 hbase ?_)
    case c2 => exact fun u hu => dX (S := [0]) hu
    case c3 => omega
    case c4 => omega
    intro v7 V7 hown7 hgrow7 _
    obtain ⟨a8, c8, hv8, hS9⟩ := (yy HN).add hgrow7 hown7
    subst hv8
    have HS9 := yz hS9
    clear hown7 hgrow7 hS9 hown HN0 HN
    go_wp2_with fail
    go_ret3
    exact ⟨L, sa, sc, S, pa, pc, I ++ [0], a8, c8, by simp, hll, hsl, World.ownsRow.mono (yy HS9).sky (by omega), World.ownsRow.mono (yy HS9).spt (by omega), by simp; omega, World.ownsRow.mono (yy HS9).ids (by omega), (yy HS9).bel⟩
  ·go_wp2_with fail
   refine (bh w.heap.size 15 _ (yy HN).src (by omega)).mono ?_
   rintro e W8 ⟨y8, rfl, hS8, hg8⟩
   have hB8 : W1.heap.size ≤ (W8.alloc (.cells #[.int .i64 0] 2)).heap.size := by have := hg8.size; simp; omega
   replace HN := yz ((yy HN).call hS8 hg8)
   clear hS8 hg8
   cases y8
   ·go_wp2_with fail
    go_ret3
    exact ⟨L, sa, sc, S, pa, pc, I, _, ic, rfl, hll, hsl, World.ownsRow.mono (yy HN).sky (by omega), World.ownsRow.mono (yy HN).spt (by omega), by omega, World.ownsRow.mono (yy HN).ids (by omega), (yy HN).bel⟩
   ·have hy := ak W8 (.cells #[.int .i64 0] 2)
    have HN0 := yz (aO W8 [.int .i64 0] 2)
    replace HN := yz ((yy HN).below hy)
    clear hy
    have hown := (yy HN).ids
    have hbase : W1.heap.size ≤ (W8.alloc (.cells #[.int .i64 0] 2)).heap.size := hB8
    go_wp2_with (at_builtin; refine wpList_append_own _ rfl _ _ 27 rfl W1.heap.size 2 j0 (.int .i64 0) 1 8 Tryz.underlying27 jinf jz0 jz1 jz2 rfl (by decide) _ _ _ rfl hown ⟨W8.heap.size, 0, none⟩ 1 1 [.int .i64 0] rfl rfl (fq (yy HN0)) ?c2 ?c3 ?c4 hbase ?_)
    case c2 => exact fun u hu => dX (S := [0]) hu
    case c3 => omega
    case c4 => omega
    intro v7 V7 hown7 hgrow7 _
    obtain ⟨a8, c8, hv8, hS9⟩ := (yy HN).add hgrow7 hown7
    subst hv8
    have HS9 := yz hS9
    clear hown7 hgrow7 hS9 hown HN0 HN
    go_wp2_with fail
    go_ret3
    exact ⟨L, sa, sc, S, pa, pc, I ++ [0], a8, c8, by simp, hll, hsl, World.ownsRow.mono (yy HS9).sky (by omega), World.ownsRow.mono (yy HS9).spt (by omega), by simp; omega, World.ownsRow.mono (yy HS9).ids (by omega), (yy HS9).bel⟩
 ·have hI1 : (0 : Int) < (I.length : Int) := by omega
  cases y
  ·go_wp2_with fail
   refine (bh w.heap.size 15 _ (yy HN).src (by omega)).mono ?_
   rintro e W8 ⟨y8, rfl, hS8, hg8⟩
   have hB8 : W1.heap.size ≤ (W8.alloc (.cells #[.int .i64 0] 2)).heap.size := by have := hg8.size; simp; omega
   replace HN := yz ((yy HN).call hS8 hg8)
   clear hS8 hg8
   cases y8
   ·go_wp2_with fail
    go_ret3
    exact ⟨L, sa, sc, S, pa, pc, I, _, ic, rfl, hll, hsl, World.ownsRow.mono (yy HN).sky (by omega), World.ownsRow.mono (yy HN).spt (by omega), by omega, World.ownsRow.mono (yy HN).ids (by omega), (yy HN).bel⟩
   ·have hy := ak W8 (.cells #[.int .i64 0] 2)
    have HN0 := yz (aO W8 [.int .i64 0] 2)
    replace HN := yz ((yy HN).below hy)
    clear hy
    have hown := (yy HN).ids
    have hbase : W1.heap.size ≤ (W8.alloc (.cells #[.int .i64 0] 2)).heap.size := hB8
    go_wp2_with (at_builtin; refine wpList_append_own _ rfl _ _ 27 rfl W1.heap.size 2 j0 (.int .i64 0) 1 8 Tryz.underlying27 jinf jz0 jz1 jz2 rfl (by decide) _ _ _ rfl hown ⟨W8.heap.size, 0, none⟩ 1 1 [.int .i64 0] rfl rfl (fq (yy HN0)) ?c2 ?c3 ?c4 hbase ?_)
    case c2 => exact fun u hu => dX (S := [0]) hu
    case c3 => omega
    case c4 => omega
    intro v7 V7 hown7 hgrow7 _
    obtain ⟨a8, c8, hv8, hS9⟩ := (yy HN).add hgrow7 hown7
    subst hv8
    have HS9 := yz hS9
    clear hown7 hgrow7 hS9 hown HN0 HN
    go_wp2_with fail
    go_ret3
    exact ⟨L, sa, sc, S, pa, pc, I ++ [0], a8, c8, by simp, hll, hsl, World.ownsRow.mono (yy HS9).sky (by omega), World.ownsRow.mono (yy HS9).spt (by omega), by simp; omega, World.ownsRow.mono (yy HS9).ids (by omega), (yy HS9).bel⟩
  ·obtain ⟨g, hga⟩ : ∃ g, ia = some ⟨g, 0, none⟩ := by
    rcases (yy HN).ids.2 with ⟨_, h0⟩ | ⟨g, cp, cur, e, _⟩
    ·exact absurd h0 hI0
    ·injection e with e1 _ _
     exact ⟨g, e1⟩
   subst hga
   go_wp2_with fail
   refine (bp w.heap.size (I.length : Int) _ (yy HN).src (by omega)).mono ?_
   rintro e W6 ⟨k, rfl, k0, k1, k2, hS6, hg6⟩
   obtain ⟨k, rfl⟩ := Int.eq_ofNat_of_zero_le k0
   have hkI : k < I.length := by
    rcases Nat.lt_or_ge 1 I.length with h | h
    ·have := k1 (by omega)
     omega
    ·have := k2 (by omega)
     omega
   have hkI2 : (k : Int) < (I.length : Int) := by omega
   replace HN := yz ((yy HN).call hS6 hg6)
   have hz6 := hg6.size
   clear k1 k2 hS6 hg6
   have hy := ak W6 (.cells #[.int .i64 0, .int .i64 1, .int .i64 2, .int .i64 10, .int .i64 99, .int .i64 (-1)] 2)
   have H6 := yz (up W6)
   replace HN := yz ((yy HN).below hy)
   have hb6 : w.heap.size ≠ W6.heap.size := by omega
   clear hy
   go_wp2_with fail
   refine (bp w.heap.size 6 _ (yy HN).src (by decide)).mono ?_
   rintro e W7 ⟨m, rfl, m0, m6, _, hS7, hg7⟩
   replace m6 := m6 (by decide)
   obtain ⟨m, rfl⟩ := Int.eq_ofNat_of_zero_le m0
   obtain ⟨zz, hzz⟩ := yy H6 m (by omega)
   have hzz7 : W7.cell? ⟨W6.heap.size, m, none⟩ = some (.int .i64 zz) := hg7.cell hzz (fun e => hb6 (Option.some.inj e).symm)
   replace HN := yz ((yy HN).call hS7 hg7)
   have hz7 := hg7.size
   clear hS7 hg7 H6 hzz
   have hm6 : (m : Int) < 6 := by omega
   have c0 : W7.cell? ⟨g, k, none⟩ = some (.int .i64 (I.getD k 0)) := by
    have := World.ownsRow.cellAt (yy HN).ids k (by omega)
    rw [this, oH I hkI]
   have f0 : W7.frozen? ⟨g, k, none⟩ = false := World.ownsRow.frozenAt (yy HN).ids k
   replace HN := yz ((yy HN).put k zz)
   have hz8 : W1.heap.size ≤ (W7.setCell ⟨g, k, none⟩ (.int .i64 zz)).heap.size := by have h1 : (W6.alloc (.cells #[.int .i64 0, .int .i64 1, .int .i64 2, .int .i64 10, .int .i64 99, .int .i64 (-1)] 2)).heap.size = W6.heap.size + 1 := (by simp); have h2 : (W7.setCell ⟨g, k, none⟩ (.int .i64 zz)).heap.size = W7.heap.size := (by simp [World.setCell]); omega
   go_wp2_with fail
   refine (bh w.heap.size 15 _ (yy HN).src (by omega)).mono ?_
   rintro e W8 ⟨y8, rfl, hS8, hg8⟩
   have hB8 : W1.heap.size ≤ (W8.alloc (.cells #[.int .i64 0] 2)).heap.size := by have := hg8.size; simp; omega
   replace HN := yz ((yy HN).call hS8 hg8)
   clear hS8 hg8
   cases y8
   ·go_wp2_with fail
    go_ret3
    exact ⟨L, sa, sc, S, pa, pc, (I.set k zz), _, ic, by simp, hll, hsl, World.ownsRow.mono (yy HN).sky (by omega), World.ownsRow.mono (yy HN).spt (by omega), by simp; omega, World.ownsRow.mono (yy HN).ids (by omega), (yy HN).bel⟩
   ·have hy := ak W8 (.cells #[.int .i64 0] 2)
    have HN0 := yz (aO W8 [.int .i64 0] 2)
    replace HN := yz ((yy HN).below hy)
    clear hy
    have hown := (yy HN).ids
    have hbase : W1.heap.size ≤ (W8.alloc (.cells #[.int .i64 0] 2)).heap.size := hB8
    rw [List.length_set] at hown
    go_wp2_with (at_builtin; refine wpList_append_own _ rfl _ _ 27 rfl W1.heap.size 2 j0 (.int .i64 0) 1 8 Tryz.underlying27 jinf jz0 jz1 jz2 rfl (by decide) _ _ _ rfl hown ⟨W8.heap.size, 0, none⟩ 1 1 [.int .i64 0] rfl rfl (fq (yy HN0)) ?c2 ?c3 ?c4 hbase ?_)
    case c2 => exact fun u hu => dX (S := [0]) hu
    case c3 => omega
    case c4 => omega
    intro v7 V7 hown7 hgrow7 _
    obtain ⟨a8, c8, hv8, hS9⟩ := (yy HN).add hgrow7 (by rw [List.length_set]; exact hown7)
    subst hv8
    have HS9 := yz hS9
    clear hown7 hgrow7 hS9 hown HN0 HN
    go_wp2_with fail
    go_ret3
    exact ⟨L, sa, sc, S, pa, pc, (I.set k zz) ++ [0], a8, c8, by simp, hll, hsl, World.ownsRow.mono (yy HS9).sky (by omega), World.ownsRow.mono (yy HS9).spt (by omega), by simp; omega, World.ownsRow.mono (yy HS9).ids (by omega), (yy HS9).bel⟩
theorem ke (ca : Option Addr) (len cc : Nat) (w : World) (hl : len ≤ 1048576) (hR : Row w ca len w.heap.size) :
  Calls Tryz.prog 8 #[.slice ca len cc] w fun e w' => ∃ (L : List St) (sa : Option Addr) (sc : Nat) (S : List D3) (pa : Option Addr) (pc : Nat) (I : List Int) (ia : Option Addr) (ic : Nat), e = .returned (.tuple #[.slice sa L.length sc, .slice pa S.length pc, .slice ia I.length ic]) ∧ L.length ≤ 13 ∧ S.length ≤ 7 ∧ aE w' w.heap.size L sa sc ∧ w'.ownsRow w.heap.size 67 3 (.slice pa S.length pc) S.length (flL S) ∧ I.length ≤ 8 ∧ w'.ownsRow w.heap.size 2 1 (.slice ia I.length ic) I.length (bu I) ∧ Below w.heap.size w w' := by
 have cS := yz (ie ca len cc w hl hR)
 clear hR
 go_enter Tryz.func8, Tryz.ntmps8
 go_wp2_with fail
 refine (yy cS).mono ?_
 rintro e W1 ⟨L, sa, sc, S, pa, pc, I, ia, ic, rfl, h⟩
 have H := yz h
 clear h cS
 go_wp2_with fail
 go_ret3
 exact ⟨L, sa, sc, S, pa, pc, I, ia, ic, rfl, yy H⟩
end
end Go.Proofs.YtoakkmjcbnfljaaGreatDoor
