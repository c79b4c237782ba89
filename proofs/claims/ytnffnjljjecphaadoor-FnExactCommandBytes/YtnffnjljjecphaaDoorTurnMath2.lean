/- Plain facts on turns: what the wrapped sums are, how long a turned direction is, that a turn keeps angles, that a turn back undoes it, that two turns one behind the other are the turn that both are together; nothing of the program in them. -/
import Derived.Test.YtnffnjljjecphaaDoorTurnMath
namespace Go.Proofs.YtnffnjljjecphaaDoor
open Go.RowKit
set_option linter.unusedVariables false

/- the sums as the machine has them -/
theorem apW_X {a b c d x y z : Int} (ht : inT 5 a b c d = true) (hv : withinB 1800 x y z = true) :
    wrap64 (wrap64 (wrap64 (wrap64 (wrap64 (wrap64 (wrap64 (a * a) + wrap64 (b * b)) - wrap64 (c * c)) - wrap64 (d * d)) * x) + wrap64 (wrap64 (2 * wrap64 (wrap64 (b * c) - wrap64 (a * d))) * y)) + wrap64 (wrap64 (2 * wrap64 (wrap64 (b * d) + wrap64 (a * c))) * z)) = apX a b c d x y z := by
  obtain ⟨ha, hb, hc, hd⟩ := inT_iff.1 ht
  have h1 := mulB ha ha
  have h2 := mulB hb hb
  have h3 := mulB hc hc
  have h4 := mulB hd hd
  have h5 := mulB hb hc
  have h6 := mulB ha hd
  have h7 := mulB hb hd
  have h8 := mulB ha hc
  rw [wrap_id (n := a * a) (by omega) (by omega), wrap_id (n := b * b) (by omega) (by omega), wrap_id (n := c * c) (by omega) (by omega), wrap_id (n := d * d) (by omega) (by omega), wrap_id (n := b * c) (by omega) (by omega), wrap_id (n := a * d) (by omega) (by omega), wrap_id (n := b * d) (by omega) (by omega), wrap_id (n := a * c) (by omega) (by omega),
    wrap_id (n := a * a + b * b) (by omega) (by omega), wrap_id (n := a * a + b * b - c * c) (by omega) (by omega), wrap_id (n := a * a + b * b - c * c - d * d) (by omega) (by omega), wrap_id (n := b * c - a * d) (by omega) (by omega), wrap_id (n := b * d + a * c) (by omega) (by omega), wrap_id (n := 2 * (b * c - a * d)) (by omega) (by omega), wrap_id (n := 2 * (b * d + a * c)) (by omega) (by omega)]
  exact dotW_eq (A := 100) (B := 1800) (withinB_iff.2 ⟨by omega, by omega, by omega⟩) hv (by omega)
theorem apW_Y {a b c d x y z : Int} (ht : inT 5 a b c d = true) (hv : withinB 1800 x y z = true) :
    wrap64 (wrap64 (wrap64 (wrap64 (2 * wrap64 (wrap64 (b * c) + wrap64 (a * d))) * x) + wrap64 (wrap64 (wrap64 (wrap64 (wrap64 (a * a) - wrap64 (b * b)) + wrap64 (c * c)) - wrap64 (d * d)) * y)) + wrap64 (wrap64 (2 * wrap64 (wrap64 (c * d) - wrap64 (a * b))) * z)) = apY a b c d x y z := by
  obtain ⟨ha, hb, hc, hd⟩ := inT_iff.1 ht
  have h1 := mulB ha ha
  have h2 := mulB hb hb
  have h3 := mulB hc hc
  have h4 := mulB hd hd
  have h5 := mulB hb hc
  have h6 := mulB ha hd
  have h7 := mulB hc hd
  have h8 := mulB ha hb
  rw [wrap_id (n := a * a) (by omega) (by omega), wrap_id (n := b * b) (by omega) (by omega), wrap_id (n := c * c) (by omega) (by omega), wrap_id (n := d * d) (by omega) (by omega), wrap_id (n := b * c) (by omega) (by omega), wrap_id (n := a * d) (by omega) (by omega), wrap_id (n := c * d) (by omega) (by omega), wrap_id (n := a * b) (by omega) (by omega),
    wrap_id (n := a * a - b * b) (by omega) (by omega), wrap_id (n := a * a - b * b + c * c) (by omega) (by omega), wrap_id (n := a * a - b * b + c * c - d * d) (by omega) (by omega), wrap_id (n := b * c + a * d) (by omega) (by omega), wrap_id (n := c * d - a * b) (by omega) (by omega), wrap_id (n := 2 * (b * c + a * d)) (by omega) (by omega), wrap_id (n := 2 * (c * d - a * b)) (by omega) (by omega)]
  exact dotW_eq (A := 100) (B := 1800) (withinB_iff.2 ⟨by omega, by omega, by omega⟩) hv (by omega)
theorem apW_Z {a b c d x y z : Int} (ht : inT 5 a b c d = true) (hv : withinB 1800 x y z = true) :
    wrap64 (wrap64 (wrap64 (wrap64 (2 * wrap64 (wrap64 (b * d) - wrap64 (a * c))) * x) + wrap64 (wrap64 (2 * wrap64 (wrap64 (c * d) + wrap64 (a * b))) * y)) + wrap64 (wrap64 (wrap64 (wrap64 (wrap64 (a * a) - wrap64 (b * b)) - wrap64 (c * c)) + wrap64 (d * d)) * z)) = apZ a b c d x y z := by
  obtain ⟨ha, hb, hc, hd⟩ := inT_iff.1 ht
  have h1 := mulB ha ha
  have h2 := mulB hb hb
  have h3 := mulB hc hc
  have h4 := mulB hd hd
  have h5 := mulB hb hd
  have h6 := mulB ha hc
  have h7 := mulB hc hd
  have h8 := mulB ha hb
  rw [wrap_id (n := a * a) (by omega) (by omega), wrap_id (n := b * b) (by omega) (by omega), wrap_id (n := c * c) (by omega) (by omega), wrap_id (n := d * d) (by omega) (by omega), wrap_id (n := b * d) (by omega) (by omega), wrap_id (n := a * c) (by omega) (by omega), wrap_id (n := c * d) (by omega) (by omega), wrap_id (n := a * b) (by omega) (by omega),
    wrap_id (n := a * a - b * b) (by omega) (by omega), wrap_id (n := a * a - b * b - c * c) (by omega) (by omega), wrap_id (n := a * a - b * b - c * c + d * d) (by omega) (by omega), wrap_id (n := b * d - a * c) (by omega) (by omega), wrap_id (n := c * d + a * b) (by omega) (by omega), wrap_id (n := 2 * (b * d - a * c)) (by omega) (by omega), wrap_id (n := 2 * (c * d + a * b)) (by omega) (by omega)]
  exact dotW_eq (A := 100) (B := 1800) (withinB_iff.2 ⟨by omega, by omega, by omega⟩) hv (by omega)
def smm (p q r s : Int) : Int := wrap64 (wrap64 (wrap64 (p - q) - r) - s)
theorem coW_A {s1 s2 s3 s4 t1 t2 t3 t4 : Int} (hs : inT 5 s1 s2 s3 s4 = true) (ht : inT 5 t1 t2 t3 t4 = true) :
    wrap64 (wrap64 (wrap64 (wrap64 (s1 * t1) - wrap64 (s2 * t2)) - wrap64 (s3 * t3)) - wrap64 (s4 * t4)) = coA s1 s2 s3 s4 t1 t2 t3 t4 ∧ -100 ≤ coA s1 s2 s3 s4 t1 t2 t3 t4 ∧ coA s1 s2 s3 s4 t1 t2 t3 t4 ≤ 100 := by
  obtain ⟨ha, hb, hc, hd⟩ := inT_iff.1 hs
  obtain ⟨ka, kb, kc, kd⟩ := inT_iff.1 ht
  have h1 := mulB ha ka
  have h2 := mulB hb kb
  have h3 := mulB hc kc
  have h4 := mulB hd kd
  unfold coA
  rw [wrap_id (n := s1 * t1) (by omega) (by omega), wrap_id (n := s2 * t2) (by omega) (by omega), wrap_id (n := s3 * t3) (by omega) (by omega), wrap_id (n := s4 * t4) (by omega) (by omega), wrap_id (n := s1 * t1 - s2 * t2) (by omega) (by omega), wrap_id (n := s1 * t1 - s2 * t2 - s3 * t3) (by omega) (by omega), wrap_id (by omega) (by omega)]
  omega
theorem coW_B {s1 s2 s3 s4 t1 t2 t3 t4 : Int} (hs : inT 5 s1 s2 s3 s4 = true) (ht : inT 5 t1 t2 t3 t4 = true) :
    wrap64 (wrap64 (wrap64 (wrap64 (s1 * t2) + wrap64 (s2 * t1)) + wrap64 (s3 * t4)) - wrap64 (s4 * t3)) = coB s1 s2 s3 s4 t1 t2 t3 t4 ∧ -100 ≤ coB s1 s2 s3 s4 t1 t2 t3 t4 ∧ coB s1 s2 s3 s4 t1 t2 t3 t4 ≤ 100 := by
  obtain ⟨ha, hb, hc, hd⟩ := inT_iff.1 hs
  obtain ⟨ka, kb, kc, kd⟩ := inT_iff.1 ht
  have h1 := mulB ha kb
  have h2 := mulB hb ka
  have h3 := mulB hc kd
  have h4 := mulB hd kc
  unfold coB
  rw [wrap_id (n := s1 * t2) (by omega) (by omega), wrap_id (n := s2 * t1) (by omega) (by omega), wrap_id (n := s3 * t4) (by omega) (by omega), wrap_id (n := s4 * t3) (by omega) (by omega), wrap_id (n := s1 * t2 + s2 * t1) (by omega) (by omega), wrap_id (n := s1 * t2 + s2 * t1 + s3 * t4) (by omega) (by omega), wrap_id (by omega) (by omega)]
  omega
theorem coW_C {s1 s2 s3 s4 t1 t2 t3 t4 : Int} (hs : inT 5 s1 s2 s3 s4 = true) (ht : inT 5 t1 t2 t3 t4 = true) :
    wrap64 (wrap64 (wrap64 (wrap64 (s1 * t3) - wrap64 (s2 * t4)) + wrap64 (s3 * t1)) + wrap64 (s4 * t2)) = coC s1 s2 s3 s4 t1 t2 t3 t4 ∧ -100 ≤ coC s1 s2 s3 s4 t1 t2 t3 t4 ∧ coC s1 s2 s3 s4 t1 t2 t3 t4 ≤ 100 := by
  obtain ⟨ha, hb, hc, hd⟩ := inT_iff.1 hs
  obtain ⟨ka, kb, kc, kd⟩ := inT_iff.1 ht
  have h1 := mulB ha kc
  have h2 := mulB hb kd
  have h3 := mulB hc ka
  have h4 := mulB hd kb
  unfold coC
  rw [wrap_id (n := s1 * t3) (by omega) (by omega), wrap_id (n := s2 * t4) (by omega) (by omega), wrap_id (n := s3 * t1) (by omega) (by omega), wrap_id (n := s4 * t2) (by omega) (by omega), wrap_id (n := s1 * t3 - s2 * t4) (by omega) (by omega), wrap_id (n := s1 * t3 - s2 * t4 + s3 * t1) (by omega) (by omega), wrap_id (by omega) (by omega)]
  omega
theorem coW_D {s1 s2 s3 s4 t1 t2 t3 t4 : Int} (hs : inT 5 s1 s2 s3 s4 = true) (ht : inT 5 t1 t2 t3 t4 = true) :
    wrap64 (wrap64 (wrap64 (wrap64 (s1 * t4) + wrap64 (s2 * t3)) - wrap64 (s3 * t2)) + wrap64 (s4 * t1)) = coD s1 s2 s3 s4 t1 t2 t3 t4 ∧ -100 ≤ coD s1 s2 s3 s4 t1 t2 t3 t4 ∧ coD s1 s2 s3 s4 t1 t2 t3 t4 ≤ 100 := by
  obtain ⟨ha, hb, hc, hd⟩ := inT_iff.1 hs
  obtain ⟨ka, kb, kc, kd⟩ := inT_iff.1 ht
  have h1 := mulB ha kd
  have h2 := mulB hb kc
  have h3 := mulB hc kb
  have h4 := mulB hd ka
  unfold coD
  rw [wrap_id (n := s1 * t4) (by omega) (by omega), wrap_id (n := s2 * t3) (by omega) (by omega), wrap_id (n := s3 * t2) (by omega) (by omega), wrap_id (n := s4 * t1) (by omega) (by omega), wrap_id (n := s1 * t4 + s2 * t3) (by omega) (by omega), wrap_id (n := s1 * t4 + s2 * t3 - s3 * t2) (by omega) (by omega), wrap_id (by omega) (by omega)]
  omega

/- what the calls answer -/
def apR (a b c d x y z : Int) : Bool := rightT a b c d && wideB x y z
def apI (r : Bool) (v : Int) : Int := if r then v else 0
def coR (s1 s2 s3 s4 t1 t2 t3 t4 : Int) : Bool := rightT s1 s2 s3 s4 && rightT t1 t2 t3 t4
def coK (s1 s2 s3 s4 t1 t2 t3 t4 : Int) : Int :=
  if coR s1 s2 s3 s4 t1 t2 t3 t4 then ofC (coA s1 s2 s3 s4 t1 t2 t3 t4) (coB s1 s2 s3 s4 t1 t2 t3 t4) (coC s1 s2 s3 s4 t1 t2 t3 t4) (coD s1 s2 s3 s4 t1 t2 t3 t4) else 1
def coP (s1 s2 s3 s4 t1 t2 t3 t4 v : Int) : Int :=
  if coR s1 s2 s3 s4 t1 t2 t3 t4 then ofP (coA s1 s2 s3 s4 t1 t2 t3 t4) (coB s1 s2 s3 s4 t1 t2 t3 t4) (coC s1 s2 s3 s4 t1 t2 t3 t4) (coD s1 s2 s3 s4 t1 t2 t3 t4) v else 0

/- lengths -/
theorem absLe {x m : Int} (hm : 0 ≤ m) (h : x * x ≤ m * m) : -m ≤ x ∧ x ≤ m := by
  have h1 : x.natAbs * x.natAbs ≤ m.natAbs * m.natAbs := by
    have e1 := Int.natAbs_mul_self' x
    have e2 := Int.natAbs_mul_self' m
    omega
  have := Nat.mul_self_le_mul_self_iff.1 h1
  omega
theorem ap_bound {a b c d x y z D M : Int} (ht : rightT a b c d = true) (hD : dot x y z x y z ≤ D) (hM : 0 ≤ M) (h : 10000 * D ≤ M * M) : withinB M (apX a b c d x y z) (apY a b c d x y z) (apZ a b c d x y z) = true := by
  have hn := nT_le (rightT_iff.1 ht).1
  have hp := nT_pos (rightT_ne ht)
  have hn2 := mulB (A := 100) (B := 100) (a := nT a b c d) (b := nT a b c d) (by omega) (by omega)
  have hd := ap_dot a b c d x y z x y z
  have h0 : 0 ≤ dot x y z x y z := by have h1 := sqn x; have h2 := sqn y; have h3 := sqn z; unfold dot; omega
  have hm := mulB (A := 10000) (B := D) (a := nT a b c d * nT a b c d) (b := dot x y z x y z) (by omega) (by omega)
  have s1 := sqn (apX a b c d x y z)
  have s2 := sqn (apY a b c d x y z)
  have s3 := sqn (apZ a b c d x y z)
  have hdd : dot (apX a b c d x y z) (apY a b c d x y z) (apZ a b c d x y z) (apX a b c d x y z) (apY a b c d x y z) (apZ a b c d x y z) = apX a b c d x y z * apX a b c d x y z + apY a b c d x y z * apY a b c d x y z + apZ a b c d x y z * apZ a b c d x y z := rfl
  rw [withinB_iff]
  exact ⟨absLe hM (by omega), absLe hM (by omega), absLe hM (by omega)⟩
theorem ap_ne {a b c d x y z : Int} (ht : rightT a b c d = true) (hz : ¬ (x = 0 ∧ y = 0 ∧ z = 0)) : ¬ (apX a b c d x y z = 0 ∧ apY a b c d x y z = 0 ∧ apZ a b c d x y z = 0) := by
  rintro ⟨h1, h2, h3⟩
  have hp := nT_pos (rightT_ne ht)
  have hd := ap_dot a b c d x y z x y z
  rw [h1, h2, h3] at hd
  have := Int.mul_pos (Int.mul_pos hp hp) (sq_pos hz)
  rw [← hd] at this
  exact absurd this (by decide)
theorem right_of {M x y z : Int} (hM : M ≤ 1000000) (h : withinB M x y z = true) (hz : ¬ (x = 0 ∧ y = 0 ∧ z = 0)) : rightB x y z = true := by
  rw [withinB_iff] at h
  rw [rightB_iff]
  exact ⟨by omega, hz⟩
theorem wide_of {x y z : Int} (h : withinB 1800 x y z = true) (hz : ¬ (x = 0 ∧ y = 0 ∧ z = 0)) : wideB x y z = true := by
  unfold wideB
  rw [right_of (by omega) h hz, h]; rfl
/- a direction near ahead: what the law draws -/
def nearB (x y z : Int) : Prop := (-4 ≤ x ∧ x ≤ 4) ∧ (-4 ≤ y ∧ y ≤ 4) ∧ (1 ≤ z ∧ z ≤ 9)
theorem near_dot {x y z : Int} (h : nearB x y z) : dot x y z x y z ≤ 113 := by
  obtain ⟨hx, hy, hz⟩ := h
  have h1 := mulB hx hx
  have h2 := mulB hy hy
  have h3 := mulB (A := 9) (B := 9) (a := z) (b := z) (by omega) (by omega)
  unfold dot
  omega
theorem near_ne {x y z : Int} (h : nearB x y z) : ¬ (x = 0 ∧ y = 0 ∧ z = 0) := by
  obtain ⟨hx, hy, hz⟩ := h
  omega
theorem near_wide {x y z : Int} (h : nearB x y z) : wideB x y z = true := by
  refine wide_of ?_ (near_ne h)
  obtain ⟨hx, hy, hz⟩ := h
  rw [withinB_iff]
  omega
theorem near_small {x y z : Int} (h : nearB x y z) : smallB x y z = true := by
  have h0 := near_ne h
  obtain ⟨hx, hy, hz⟩ := h
  have hw : withinB 10 x y z = true := by rw [withinB_iff]; omega
  unfold smallB
  rw [right_of (by omega) hw h0, hw]; rfl
theorem near_ap {a b c d x y z : Int} (ht : rightT a b c d = true) (h : nearB x y z) : wideB (apX a b c d x y z) (apY a b c d x y z) (apZ a b c d x y z) = true :=
  wide_of (ap_bound ht (near_dot h) (by omega) (by omega)) (ap_ne ht (near_ne h))

/- a turn keeps angles -/
theorem ssq_scale {k x : Int} (hk : 0 < k) : ssq (k * x) = k * k * ssq x := by
  unfold ssq
  by_cases h : x < 0
  · rw [if_pos h, if_pos (Int.mul_neg_of_pos_of_neg hk h)]; grind
  · rw [if_neg h, if_neg (by have := Int.mul_nonneg (Int.le_of_lt hk) (by omega : 0 ≤ x); omega)]; grind
theorem cos_keeps {a b c d x y z x' y' z' : Int} (ht : rightT a b c d = true) :
    cosI (apX a b c d x y z) (apY a b c d x y z) (apZ a b c d x y z) (apX a b c d x' y' z') (apY a b c d x' y' z') (apZ a b c d x' y' z') x y z x' y' z' = 0 := by
  have hp := nT_pos (rightT_ne ht)
  unfold cosI
  split
  · rw [ap_dot, ap_dot, ap_dot, ssq_scale (Int.mul_pos hp hp)]
    have : nT a b c d * nT a b c d * (nT a b c d * nT a b c d) * ssq (dot x y z x' y' z') * (dot x y z x y z * dot x' y' z' x' y' z') = ssq (dot x y z x' y' z') * (nT a b c d * nT a b c d * dot x y z x y z * (nT a b c d * nT a b c d * dot x' y' z' x' y' z')) := by
      generalize nT a b c d = n
      generalize ssq (dot x y z x' y' z') = s
      generalize dot x y z x y z = p
      generalize dot x' y' z' x' y' z' = q
      grind
    rw [this]
    simp [ordI]
  · rfl

/- the same way, by multiples -/
theorem same_of {m g x y z u v t : Int} (hm : 0 < m) (hg : 0 < g) (h1 : rightB x y z = true) (h2 : rightB u v t = true) (ex : m * x = g * u) (ey : m * y = g * v) (ez : m * z = g * t) : sameB x y z u v t = true := by
  have a := (rightB_iff.1 h1).1
  have b := (rightB_iff.1 h2).1
  have hx := sq_pos (rightB_iff.1 h1).2
  have c1 : x * v - y * u = 0 := by
    have : g * (x * v - y * u) = 0 := by grind
    rcases Int.mul_eq_zero.1 this with e | e
    · omega
    · exact e
  have c2 : y * t - z * v = 0 := by
    have : g * (y * t - z * v) = 0 := by grind
    rcases Int.mul_eq_zero.1 this with e | e
    · omega
    · exact e
  have c3 : z * u - x * t = 0 := by
    have : g * (z * u - x * t) = 0 := by grind
    rcases Int.mul_eq_zero.1 this with e | e
    · omega
    · exact e
  have hd : 0 < dot x y z u v t := by
    have e : g * dot x y z u v t = m * dot x y z x y z := by unfold dot; grind
    have hp := Int.mul_pos hm hx
    rcases Int.lt_or_le 0 (dot x y z u v t) with h | h
    · exact h
    · have : g * dot x y z u v t ≤ 0 := by
        have := Int.mul_le_mul_of_nonneg_left h (Int.le_of_lt hg)
        simpa using this
      omega
  unfold sameB
  rw [h1, h2, (crW_eq a.2.1 a.2.2 b.2.1 b.2.2 (by omega)).1, (crW_eq a.2.2 a.1 b.2.2 b.1 (by omega)).1, (crW_eq a.1 a.2.1 b.1 b.2.1 (by omega)).1, dotW_eq (A := 1000000) (B := 1000000) (withinB_iff.2 a) (withinB_iff.2 b) (by omega), c1, c2, c3]
  simp [zeroB, hd]
/- the prime of a direction, and it, many times -/
theorem gI_dvd (x y z : Int) : gI x y z ∣ x ∧ gI x y z ∣ y ∧ gI x y z ∣ z := by
  have h1 := Int.gcd_dvd_left (a := ((Int.gcd x y : Nat) : Int)) (b := z)
  exact ⟨Int.dvd_trans h1 (Int.gcd_dvd_left ..), Int.dvd_trans h1 (Int.gcd_dvd_right ..), Int.gcd_dvd_right ..⟩
theorem prime_of {x y z : Int} (h : rightB x y z = true) : ∃ p q r : Int, prI true (gI x y z) x = p ∧ prI true (gI x y z) y = q ∧ prI true (gI x y z) z = r ∧ x = gI x y z * p ∧ y = gI x y z * q ∧ z = gI x y z * r ∧ 0 < gI x y z := by
  have hg := gI_pos h
  have hb := (rightB_iff.1 h).1
  obtain ⟨⟨p, hp⟩, ⟨q, hq⟩, ⟨r, hr⟩⟩ := gI_dvd x y z
  have key : ∀ {n k : Int}, (-1000000 ≤ n ∧ n ≤ 1000000) → n = gI x y z * k → prI true (gI x y z) n = k := by
    intro n k hn e
    have e1 : n.tdiv (gI x y z) = k := by rw [e]; exact Int.mul_tdiv_cancel_left k (by omega)
    have hb := tdiv_le (s := gI x y z) hn
    unfold prI
    rw [if_pos rfl, e1]
    rw [e1] at hb
    exact wrap_id (by omega) (by omega)
  exact ⟨p, q, r, key hb.1 hp, key hb.2.1 hq, key hb.2.2 hr, hp, hq, hr, hg⟩
theorem part_le {g p m : Int} (hg : 0 < g) (h : -m ≤ g * p ∧ g * p ≤ m) : -m ≤ p ∧ p ≤ m := by
  have h1 : (g * p).natAbs = g.natAbs * p.natAbs := Int.natAbs_mul g p
  have h2 : p.natAbs ≤ g.natAbs * p.natAbs := Nat.le_mul_of_pos_left _ (by omega)
  omega
end Go.Proofs.YtnffnjljjecphaaDoor
