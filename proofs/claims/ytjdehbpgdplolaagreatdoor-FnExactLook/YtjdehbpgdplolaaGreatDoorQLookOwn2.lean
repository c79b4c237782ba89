/- Several texts in one: TurnMath2, MaM, Plain, VecA, VecB, VecC, VecD. -/
import Derived.WalkKit
import Derived.Laws.BitsAllLaws
import Derived.Test.YtjdehbpgdplolaaGreatDoorChecked
import Derived.Below
import Derived.Laws.StructEq
import Derived.WalkLawsBesides
import Derived.Deep.RegionWith
import Derived.Test.YtjdehbpgdplolaaGreatDoorQLookOwn1
namespace Go.Proofs.YtjdehbpgdplolaaGreatDoor
open Go.RowKit
set_option linter.unusedVariables false

/- the sums as the machine has them -/
theorem apW_X {a b c d x y z : Int} (ht : inT 5 a b c d = true) (hv : withinB 1800 x y z = true) :
    wrap64 (wrap64 (wrap64 (wrap64 (wrap64 (wrap64 (wrap64 (a * a) + wrap64 (b * b)) - wrap64 (c * c)) - wrap64 (d * d)) * x) + wrap64 (wrap64 (2 * wrap64 (wrap64 (b * c) - wrap64 (a * d))) * y)) + wrap64 (wrap64 (2 * wrap64 (wrap64 (b * d) + wrap64 (a * c))) * z)) = apX a b c d x y z := by
  obtain ⟨ha, hb, hc, hd⟩ := inT_iff.1 ht
  have h1 := mulB ha ha
  have h2 := mulB hb hb
  have h3 := mulB hc hc
  have h4 := mulB hd hd
  have h5 := mulB hb hc
  have h6 := mulB ha hd
  have h7 := mulB hb hd
  have h8 := mulB ha hc
  rw [wrap_id (n := a * a) (by omega) (by omega), wrap_id (n := b * b) (by omega) (by omega), wrap_id (n := c * c) (by omega) (by omega), wrap_id (n := d * d) (by omega) (by omega), wrap_id (n := b * c) (by omega) (by omega), wrap_id (n := a * d) (by omega) (by omega), wrap_id (n := b * d) (by omega) (by omega), wrap_id (n := a * c) (by omega) (by omega),
    wrap_id (n := a * a + b * b) (by omega) (by omega), wrap_id (n := a * a + b * b - c * c) (by omega) (by omega), wrap_id (n := a * a + b * b - c * c - d * d) (by omega) (by omega), wrap_id (n := b * c - a * d) (by omega) (by omega), wrap_id (n := b * d + a * c) (by omega) (by omega), wrap_id (n := 2 * (b * c - a * d)) (by omega) (by omega), wrap_id (n := 2 * (b * d + a * c)) (by omega) (by omega)]
  exact dotW_eq (A := 100) (B := 1800) (withinB_iff.2 ⟨by omega, by omega, by omega⟩) hv (by omega)
theorem apW_Y {a b c d x y z : Int} (ht : inT 5 a b c d = true) (hv : withinB 1800 x y z = true) :
    wrap64 (wrap64 (wrap64 (wrap64 (2 * wrap64 (wrap64 (b * c) + wrap64 (a * d))) * x) + wrap64 (wrap64 (wrap64 (wrap64 (wrap64 (a * a) - wrap64 (b * b)) + wrap64 (c * c)) - wrap64 (d * d)) * y)) + wrap64 (wrap64 (2 * wrap64 (wrap64 (c * d) - wrap64 (a * b))) * z)) = apY a b c d x y z := by
  obtain ⟨ha, hb, hc, hd⟩ := inT_iff.1 ht
  have h1 := mulB ha ha
  have h2 := mulB hb hb
  have h3 := mulB hc hc
  have h4 := mulB hd hd
  have h5 := mulB hb hc
  have h6 := mulB ha hd
  have h7 := mulB hc hd
  have h8 := mulB ha hb
  rw [wrap_id (n := a * a) (by omega) (by omega), wrap_id (n := b * b) (by omega) (by omega), wrap_id (n := c * c) (by omega) (by omega), wrap_id (n := d * d) (by omega) (by omega), wrap_id (n := b * c) (by omega) (by omega), wrap_id (n := a * d) (by omega) (by omega), wrap_id (n := c * d) (by omega) (by omega), wrap_id (n := a * b) (by omega) (by omega),
    wrap_id (n := a * a - b * b) (by omega) (by omega), wrap_id (n := a * a - b * b + c * c) (by omega) (by omega), wrap_id (n := a * a - b * b + c * c - d * d) (by omega) (by omega), wrap_id (n := b * c + a * d) (by omega) (by omega), wrap_id (n := c * d - a * b) (by omega) (by omega), wrap_id (n := 2 * (b * c + a * d)) (by omega) (by omega), wrap_id (n := 2 * (c * d - a * b)) (by omega) (by omega)]
  exact dotW_eq (A := 100) (B := 1800) (withinB_iff.2 ⟨by omega, by omega, by omega⟩) hv (by omega)
theorem apW_Z {a b c d x y z : Int} (ht : inT 5 a b c d = true) (hv : withinB 1800 x y z = true) :
    wrap64 (wrap64 (wrap64 (wrap64 (2 * wrap64 (wrap64 (b * d) - wrap64 (a * c))) * x) + wrap64 (wrap64 (2 * wrap64 (wrap64 (c * d) + wrap64 (a * b))) * y)) + wrap64 (wrap64 (wrap64 (wrap64 (wrap64 (a * a) - wrap64 (b * b)) - wrap64 (c * c)) + wrap64 (d * d)) * z)) = apZ a b c d x y z := by
  obtain ⟨ha, hb, hc, hd⟩ := inT_iff.1 ht
  have h1 := mulB ha ha
  have h2 := mulB hb hb
  have h3 := mulB hc hc
  have h4 := mulB hd hd
  have h5 := mulB hb hd
  have h6 := mulB ha hc
  have h7 := mulB hc hd
  have h8 := mulB ha hb
  rw [wrap_id (n := a * a) (by omega) (by omega), wrap_id (n := b * b) (by omega) (by omega), wrap_id (n := c * c) (by omega) (by omega), wrap_id (n := d * d) (by omega) (by omega), wrap_id (n := b * d) (by omega) (by omega), wrap_id (n := a * c) (by omega) (by omega), wrap_id (n := c * d) (by omega) (by omega), wrap_id (n := a * b) (by omega) (by omega),
    wrap_id (n := a * a - b * b) (by omega) (by omega), wrap_id (n := a * a - b * b - c * c) (by omega) (by omega), wrap_id (n := a * a - b * b - c * c + d * d) (by omega) (by omega), wrap_id (n := b * d - a * c) (by omega) (by omega), wrap_id (n := c * d + a * b) (by omega) (by omega), wrap_id (n := 2 * (b * d - a * c)) (by omega) (by omega), wrap_id (n := 2 * (c * d + a * b)) (by omega) (by omega)]
  exact dotW_eq (A := 100) (B := 1800) (withinB_iff.2 ⟨by omega, by omega, by omega⟩) hv (by omega)
def smm (p q r s : Int) : Int := wrap64 (wrap64 (wrap64 (p - q) - r) - s)
theorem coW_A {s1 s2 s3 s4 t1 t2 t3 t4 : Int} (hs : inT 5 s1 s2 s3 s4 = true) (ht : inT 5 t1 t2 t3 t4 = true) :
    wrap64 (wrap64 (wrap64 (wrap64 (s1 * t1) - wrap64 (s2 * t2)) - wrap64 (s3 * t3)) - wrap64 (s4 * t4)) = coA s1 s2 s3 s4 t1 t2 t3 t4 ∧ -100 ≤ coA s1 s2 s3 s4 t1 t2 t3 t4 ∧ coA s1 s2 s3 s4 t1 t2 t3 t4 ≤ 100 := by
  obtain ⟨ha, hb, hc, hd⟩ := inT_iff.1 hs
  obtain ⟨ka, kb, kc, kd⟩ := inT_iff.1 ht
  have h1 := mulB ha ka
  have h2 := mulB hb kb
  have h3 := mulB hc kc
  have h4 := mulB hd kd
  unfold coA
  rw [wrap_id (n := s1 * t1) (by omega) (by omega), wrap_id (n := s2 * t2) (by omega) (by omega), wrap_id (n := s3 * t3) (by omega) (by omega), wrap_id (n := s4 * t4) (by omega) (by omega), wrap_id (n := s1 * t1 - s2 * t2) (by omega) (by omega), wrap_id (n := s1 * t1 - s2 * t2 - s3 * t3) (by omega) (by omega), wrap_id (by omega) (by omega)]
  omega
theorem coW_B {s1 s2 s3 s4 t1 t2 t3 t4 : Int} (hs : inT 5 s1 s2 s3 s4 = true) (ht : inT 5 t1 t2 t3 t4 = true) :
    wrap64 (wrap64 (wrap64 (wrap64 (s1 * t2) + wrap64 (s2 * t1)) + wrap64 (s3 * t4)) - wrap64 (s4 * t3)) = coB s1 s2 s3 s4 t1 t2 t3 t4 ∧ -100 ≤ coB s1 s2 s3 s4 t1 t2 t3 t4 ∧ coB s1 s2 s3 s4 t1 t2 t3 t4 ≤ 100 := by
  obtain ⟨ha, hb, hc, hd⟩ := inT_iff.1 hs
  obtain ⟨ka, kb, kc, kd⟩ := inT_iff.1 ht
  have h1 := mulB ha kb
  have h2 := mulB hb ka
  have h3 := mulB hc kd
  have h4 := mulB hd kc
  unfold coB
  rw [wrap_id (n := s1 * t2) (by omega) (by omega), wrap_id (n := s2 * t1) (by omega) (by omega), wrap_id (n := s3 * t4) (by omega) (by omega), wrap_id (n := s4 * t3) (by omega) (by omega), wrap_id (n := s1 * t2 + s2 * t1) (by omega) (by omega), wrap_id (n := s1 * t2 + s2 * t1 + s3 * t4) (by omega) (by omega), wrap_id (by omega) (by omega)]
  omega
theorem coW_C {s1 s2 s3 s4 t1 t2 t3 t4 : Int} (hs : inT 5 s1 s2 s3 s4 = true) (ht : inT 5 t1 t2 t3 t4 = true) :
    wrap64 (wrap64 (wrap64 (wrap64 (s1 * t3) - wrap64 (s2 * t4)) + wrap64 (s3 * t1)) + wrap64 (s4 * t2)) = coC s1 s2 s3 s4 t1 t2 t3 t4 ∧ -100 ≤ coC s1 s2 s3 s4 t1 t2 t3 t4 ∧ coC s1 s2 s3 s4 t1 t2 t3 t4 ≤ 100 := by
  obtain ⟨ha, hb, hc, hd⟩ := inT_iff.1 hs
  obtain ⟨ka, kb, kc, kd⟩ := inT_iff.1 ht
  have h1 := mulB ha kc
  have h2 := mulB hb kd
  have h3 := mulB hc ka
  have h4 := mulB hd kb
  unfold coC
  rw [wrap_id (n := s1 * t3) (by omega) (by omega), wrap_id (n := s2 * t4) (by omega) (by omega), wrap_id (n := s3 * t1) (by omega) (by omega), wrap_id (n := s4 * t2) (by omega) (by omega), wrap_id (n := s1 * t3 - s2 * t4) (by omega) (by omega), wrap_id (n := s1 * t3 - s2 * t4 + s3 * t1) (by omega) (by omega), wrap_id (by omega) (by omega)]
  omega
theorem coW_D {s1 s2 s3 s4 t1 t2 t3 t4 : Int} (hs : inT 5 s1 s2 s3 s4 = true) (ht : inT 5 t1 t2 t3 t4 = true) :
    wrap64 (wrap64 (wrap64 (wrap64 (s1 * t4) + wrap64 (s2 * t3)) - wrap64 (s3 * t2)) + wrap64 (s4 * t1)) = coD s1 s2 s3 s4 t1 t2 t3 t4 ∧ -100 ≤ coD s1 s2 s3 s4 t1 t2 t3 t4 ∧ coD s1 s2 s3 s4 t1 t2 t3 t4 ≤ 100 := by
  obtain ⟨ha, hb, hc, hd⟩ := inT_iff.1 hs
  obtain ⟨ka, kb, kc, kd⟩ := inT_iff.1 ht
  have h1 := mulB ha kd
  have h2 := mulB hb kc
  have h3 := mulB hc kb
  have h4 := mulB hd ka
  unfold coD
  rw [wrap_id (n := s1 * t4) (by omega) (by omega), wrap_id (n := s2 * t3) (by omega) (by omega), wrap_id (n := s3 * t2) (by omega) (by omega), wrap_id (n := s4 * t1) (by omega) (by omega), wrap_id (n := s1 * t4 + s2 * t3) (by omega) (by omega), wrap_id (n := s1 * t4 + s2 * t3 - s3 * t2) (by omega) (by omega), wrap_id (by omega) (by omega)]
  omega

/- what the calls answer -/
def apR (a b c d x y z : Int) : Bool := rightT a b c d && wideB x y z
def apI (r : Bool) (v : Int) : Int := if r then v else 0
def coR (s1 s2 s3 s4 t1 t2 t3 t4 : Int) : Bool := rightT s1 s2 s3 s4 && rightT t1 t2 t3 t4
def coK (s1 s2 s3 s4 t1 t2 t3 t4 : Int) : Int :=
  if coR s1 s2 s3 s4 t1 t2 t3 t4 then ofC (coA s1 s2 s3 s4 t1 t2 t3 t4) (coB s1 s2 s3 s4 t1 t2 t3 t4) (coC s1 s2 s3 s4 t1 t2 t3 t4) (coD s1 s2 s3 s4 t1 t2 t3 t4) else 1
def coP (s1 s2 s3 s4 t1 t2 t3 t4 v : Int) : Int :=
  if coR s1 s2 s3 s4 t1 t2 t3 t4 then ofP (coA s1 s2 s3 s4 t1 t2 t3 t4) (coB s1 s2 s3 s4 t1 t2 t3 t4) (coC s1 s2 s3 s4 t1 t2 t3 t4) (coD s1 s2 s3 s4 t1 t2 t3 t4) v else 0

/- lengths -/
theorem absLe {x m : Int} (hm : 0 ≤ m) (h : x * x ≤ m * m) : -m ≤ x ∧ x ≤ m := by
  have h1 : x.natAbs * x.natAbs ≤ m.natAbs * m.natAbs := by
    have e1 := Int.natAbs_mul_self' x
    have e2 := Int.natAbs_mul_self' m
    omega
  have := Nat.mul_self_le_mul_self_iff.1 h1
  omega
theorem ap_bound {a b c d x y z D M : Int} (ht : rightT a b c d = true) (hD : dot x y z x y z ≤ D) (hM : 0 ≤ M) (h : 10000 * D ≤ M * M) : withinB M (apX a b c d x y z) (apY a b c d x y z) (apZ a b c d x y z) = true := by
  have hn := nT_le (rightT_iff.1 ht).1
  have hp := nT_pos (rightT_ne ht)
  have hn2 := mulB (A := 100) (B := 100) (a := nT a b c d) (b := nT a b c d) (by omega) (by omega)
  have hd := ap_dot a b c d x y z x y z
  have h0 : 0 ≤ dot x y z x y z := by have h1 := sqn x; have h2 := sqn y; have h3 := sqn z; unfold dot; omega
  have hm := mulB (A := 10000) (B := D) (a := nT a b c d * nT a b c d) (b := dot x y z x y z) (by omega) (by omega)
  have s1 := sqn (apX a b c d x y z)
  have s2 := sqn (apY a b c d x y z)
  have s3 := sqn (apZ a b c d x y z)
  have hdd : dot (apX a b c d x y z) (apY a b c d x y z) (apZ a b c d x y z) (apX a b c d x y z) (apY a b c d x y z) (apZ a b c d x y z) = apX a b c d x y z * apX a b c d x y z + apY a b c d x y z * apY a b c d x y z + apZ a b c d x y z * apZ a b c d x y z := rfl
  rw [withinB_iff]
  exact ⟨absLe hM (by omega), absLe hM (by omega), absLe hM (by omega)⟩
theorem ap_ne {a b c d x y z : Int} (ht : rightT a b c d = true) (hz : ¬ (x = 0 ∧ y = 0 ∧ z = 0)) : ¬ (apX a b c d x y z = 0 ∧ apY a b c d x y z = 0 ∧ apZ a b c d x y z = 0) := by
  rintro ⟨h1, h2, h3⟩
  have hp := nT_pos (rightT_ne ht)
  have hd := ap_dot a b c d x y z x y z
  rw [h1, h2, h3] at hd
  have := Int.mul_pos (Int.mul_pos hp hp) (sq_pos hz)
  rw [← hd] at this
  exact absurd this (by decide)
theorem right_of {M x y z : Int} (hM : M ≤ 1000000) (h : withinB M x y z = true) (hz : ¬ (x = 0 ∧ y = 0 ∧ z = 0)) : rightB x y z = true := by
  rw [withinB_iff] at h
  rw [rightB_iff]
  exact ⟨by omega, hz⟩
theorem wide_of {x y z : Int} (h : withinB 1800 x y z = true) (hz : ¬ (x = 0 ∧ y = 0 ∧ z = 0)) : wideB x y z = true := by
  unfold wideB
  rw [right_of (by omega) h hz, h]; rfl
/- a direction near ahead: what the law draws -/
def nearB (x y z : Int) : Prop := (-4 ≤ x ∧ x ≤ 4) ∧ (-4 ≤ y ∧ y ≤ 4) ∧ (1 ≤ z ∧ z ≤ 9)
theorem near_dot {x y z : Int} (h : nearB x y z) : dot x y z x y z ≤ 113 := by
  obtain ⟨hx, hy, hz⟩ := h
  have h1 := mulB hx hx
  have h2 := mulB hy hy
  have h3 := mulB (A := 9) (B := 9) (a := z) (b := z) (by omega) (by omega)
  unfold dot
  omega
theorem near_ne {x y z : Int} (h : nearB x y z) : ¬ (x = 0 ∧ y = 0 ∧ z = 0) := by
  obtain ⟨hx, hy, hz⟩ := h
  omega
theorem near_wide {x y z : Int} (h : nearB x y z) : wideB x y z = true := by
  refine wide_of ?_ (near_ne h)
  obtain ⟨hx, hy, hz⟩ := h
  rw [withinB_iff]
  omega
theorem near_small {x y z : Int} (h : nearB x y z) : smallB x y z = true := by
  have h0 := near_ne h
  obtain ⟨hx, hy, hz⟩ := h
  have hw : withinB 10 x y z = true := by rw [withinB_iff]; omega
  unfold smallB
  rw [right_of (by omega) hw h0, hw]; rfl
theorem near_ap {a b c d x y z : Int} (ht : rightT a b c d = true) (h : nearB x y z) : wideB (apX a b c d x y z) (apY a b c d x y z) (apZ a b c d x y z) = true :=
  wide_of (ap_bound ht (near_dot h) (by omega) (by omega)) (ap_ne ht (near_ne h))

/- a turn keeps angles -/
theorem ssq_scale {k x : Int} (hk : 0 < k) : ssq (k * x) = k * k * ssq x := by
  unfold ssq
  by_cases h : x < 0
  · rw [if_pos h, if_pos (Int.mul_neg_of_pos_of_neg hk h)]; grind
  · rw [if_neg h, if_neg (by have := Int.mul_nonneg (Int.le_of_lt hk) (by omega : 0 ≤ x); omega)]; grind
theorem cos_keeps {a b c d x y z x' y' z' : Int} (ht : rightT a b c d = true) :
    cosI (apX a b c d x y z) (apY a b c d x y z) (apZ a b c d x y z) (apX a b c d x' y' z') (apY a b c d x' y' z') (apZ a b c d x' y' z') x y z x' y' z' = 0 := by
  have hp := nT_pos (rightT_ne ht)
  unfold cosI
  split
  · rw [ap_dot, ap_dot, ap_dot, ssq_scale (Int.mul_pos hp hp)]
    have : nT a b c d * nT a b c d * (nT a b c d * nT a b c d) * ssq (dot x y z x' y' z') * (dot x y z x y z * dot x' y' z' x' y' z') = ssq (dot x y z x' y' z') * (nT a b c d * nT a b c d * dot x y z x y z * (nT a b c d * nT a b c d * dot x' y' z' x' y' z')) := by
      generalize nT a b c d = n
      generalize ssq (dot x y z x' y' z') = s
      generalize dot x y z x y z = p
      generalize dot x' y' z' x' y' z' = q
      grind
    rw [this]
    simp [ordI]
  · rfl

/- the same way, by multiples -/
theorem same_of {m g x y z u v t : Int} (hm : 0 < m) (hg : 0 < g) (h1 : rightB x y z = true) (h2 : rightB u v t = true) (ex : m * x = g * u) (ey : m * y = g * v) (ez : m * z = g * t) : sameB x y z u v t = true := by
  have a := (rightB_iff.1 h1).1
  have b := (rightB_iff.1 h2).1
  have hx := sq_pos (rightB_iff.1 h1).2
  have c1 : x * v - y * u = 0 := by
    have : g * (x * v - y * u) = 0 := by grind
    rcases Int.mul_eq_zero.1 this with e | e
    · omega
    · exact e
  have c2 : y * t - z * v = 0 := by
    have : g * (y * t - z * v) = 0 := by grind
    rcases Int.mul_eq_zero.1 this with e | e
    · omega
    · exact e
  have c3 : z * u - x * t = 0 := by
    have : g * (z * u - x * t) = 0 := by grind
    rcases Int.mul_eq_zero.1 this with e | e
    · omega
    · exact e
  have hd : 0 < dot x y z u v t := by
    have e : g * dot x y z u v t = m * dot x y z x y z := by unfold dot; grind
    have hp := Int.mul_pos hm hx
    rcases Int.lt_or_le 0 (dot x y z u v t) with h | h
    · exact h
    · have : g * dot x y z u v t ≤ 0 := by
        have := Int.mul_le_mul_of_nonneg_left h (Int.le_of_lt hg)
        simpa using this
      omega
  unfold sameB
  rw [h1, h2, (crW_eq a.2.1 a.2.2 b.2.1 b.2.2 (by omega)).1, (crW_eq a.2.2 a.1 b.2.2 b.1 (by omega)).1, (crW_eq a.1 a.2.1 b.1 b.2.1 (by omega)).1, dotW_eq (A := 1000000) (B := 1000000) (withinB_iff.2 a) (withinB_iff.2 b) (by omega), c1, c2, c3]
  simp [zeroB, hd]
/- the prime of a direction, and it, many times -/
theorem gI_dvd (x y z : Int) : gI x y z ∣ x ∧ gI x y z ∣ y ∧ gI x y z ∣ z := by
  have h1 := Int.gcd_dvd_left (a := ((Int.gcd x y : Nat) : Int)) (b := z)
  exact ⟨Int.dvd_trans h1 (Int.gcd_dvd_left ..), Int.dvd_trans h1 (Int.gcd_dvd_right ..), Int.gcd_dvd_right ..⟩
theorem prime_of {x y z : Int} (h : rightB x y z = true) : ∃ p q r : Int, prI true (gI x y z) x = p ∧ prI true (gI x y z) y = q ∧ prI true (gI x y z) z = r ∧ x = gI x y z * p ∧ y = gI x y z * q ∧ z = gI x y z * r ∧ 0 < gI x y z := by
  have hg := gI_pos h
  have hb := (rightB_iff.1 h).1
  obtain ⟨⟨p, hp⟩, ⟨q, hq⟩, ⟨r, hr⟩⟩ := gI_dvd x y z
  have key : ∀ {n k : Int}, (-1000000 ≤ n ∧ n ≤ 1000000) → n = gI x y z * k → prI true (gI x y z) n = k := by
    intro n k hn e
    have e1 : n.tdiv (gI x y z) = k := by rw [e]; exact Int.mul_tdiv_cancel_left k (by omega)
    have hb := tdiv_le (s := gI x y z) hn
    unfold prI
    rw [if_pos rfl, e1]
    rw [e1] at hb
    exact wrap_id (by omega) (by omega)
  exact ⟨p, q, r, key hb.1 hp, key hb.2.1 hq, key hb.2.2 hr, hp, hq, hr, hg⟩
theorem part_le {g p m : Int} (hg : 0 < g) (h : -m ≤ g * p ∧ g * p ≤ m) : -m ≤ p ∧ p ≤ m := by
  have h1 : (g * p).natAbs = g.natAbs * p.natAbs := Int.natAbs_mul g p
  have h2 : p.natAbs ≤ g.natAbs * p.natAbs := Nat.le_mul_of_pos_left _ (by omega)
  omega
end Go.Proofs.YtjdehbpgdplolaaGreatDoor

namespace Go.Proofs.YtjdehbpgdplolaaGreatDoor
open Go.RowKit
set_option linter.unusedVariables false

theorem sameD_comm (p q : D3) : sameD p q = sameD q p := by
  unfold sameD
  by_cases hp : rightB p.1 p.2.1 p.2.2 = true
  · by_cases hq : rightB q.1 q.2.1 q.2.2 = true
    · exact same_turned hp hq
    · rw [Bool.not_eq_true] at hq
      unfold sameB
      rw [hq]
      simp
  · rw [Bool.not_eq_true] at hp
    unfold sameB
    rw [hp]
    simp
/-- what the specification asks of two directions of parts to a million, right or not -/
theorem same_within {a1 a2 a3 b1 b2 b3 : Int} (ha : withinB 1000000 a1 a2 a3 = true) (hb : withinB 1000000 b1 b2 b3 = true) :
    (decide (crW a2 a3 b2 b3 = 0 ∧ crW a3 a1 b3 b1 = 0 ∧ crW a1 a2 b1 b2 = 0) && decide (0 < dotW a1 a2 a3 b1 b2 b3)) = sameB a1 a2 a3 b1 b2 b3 := by
  unfold sameB rightB
  rw [ha, hb]
  by_cases za : a1 = 0 ∧ a2 = 0 ∧ a3 = 0
  · obtain ⟨rfl, rfl, rfl⟩ := za
    have : dotW 0 0 0 b1 b2 b3 = 0 := by have z : wrap64 0 = 0 := wrap_id (by omega) (by omega); unfold dotW; simp [z]
    rw [this]
    simp [zeroB]
  · by_cases zb : b1 = 0 ∧ b2 = 0 ∧ b3 = 0
    · obtain ⟨rfl, rfl, rfl⟩ := zb
      have : dotW a1 a2 a3 0 0 0 = 0 := by have z : wrap64 0 = 0 := wrap_id (by omega) (by omega); unfold dotW; simp [z]
      rw [this]
      simp [zeroB]
    · have h1 : zeroB a1 a2 a3 = false := by unfold zeroB; simp only [decide_eq_false_iff_not]; exact za
      have h2 : zeroB b1 b2 b3 = false := by unfold zeroB; simp only [decide_eq_false_iff_not]; exact zb
      rw [h1, h2]
      rfl
theorem small_wideB {x y z : Int} (h : smallB x y z = true) : wideB x y z = true := by
  obtain ⟨h1, h2⟩ := small_iff h
  unfold wideB
  rw [h1, Bool.true_and, withinB_iff]
  rw [withinB_iff] at h2
  omega
def apD (a b c d : Int) (v : D3) : D3 := (apX a b c d v.1 v.2.1 v.2.2, apY a b c d v.1 v.2.1 v.2.2, apZ a b c d v.1 v.2.1 v.2.2)
theorem apD_within {a b c d : Int} {v : D3} (ht : rightT a b c d = true) (hv : smallB v.1 v.2.1 v.2.2 = true) : withinB 1000000 (apD a b c d v).1 (apD a b c d v).2.1 (apD a b c d v).2.2 = true := by
  refine ap_bound (D := 300) ht ?_ (by omega) (by omega)
  have h := dot_bound (small_iff hv).2 (small_iff hv).2
  omega
/-- the Id of the last of the first k stars that is brought to v -/
def idTo (L : List St) (a b c d : Int) (v : D3) : Nat → Int
  | 0 => 0
  | k + 1 => if sameD v (apD a b c d (stA L k).2) = true then (stA L k).1 else idTo L a b c d v k
def matchOk (L : List St) (a b c d : Int) (S : List D3) : Bool := skyB L && rightT a b c d && spotsB S
def matchL (L : List St) (a b c d : Int) (S : List D3) : List Int := if matchOk L a b c d S = true then S.map (fun v => idTo L a b c d v L.length) else []
theorem match_no1 {L : List St} {a b c d : Int} {S : List D3} (h : skyB L = false) : matchL L a b c d S = [] := by unfold matchL matchOk; rw [h]; rfl
theorem match_no2 {L : List St} {a b c d : Int} {S : List D3} (h : rightT a b c d = false) : matchL L a b c d S = [] := by unfold matchL matchOk; rw [h, Bool.and_false]; rfl
theorem match_no3 {L : List St} {a b c d : Int} {S : List D3} (h : spotsB S = false) : matchL L a b c d S = [] := by unfold matchL matchOk; rw [h, Bool.and_false]; rfl
theorem match_yes {L : List St} {a b c d : Int} {S : List D3} (h1 : skyB L = true) (h2 : rightT a b c d = true) (h3 : spotsB S = true) : matchL L a b c d S = S.map (fun v => idTo L a b c d v L.length) := by unfold matchL matchOk; rw [h1, h2, h3]; rfl
theorem match_len (L : List St) (a b c d : Int) (S : List D3) : (matchL L a b c d S).length ≤ 6 := by
  unfold matchL
  split
  · rename_i h
    unfold matchOk at h
    rw [Bool.and_eq_true] at h
    rw [List.length_map]
    exact (spots_ok h.2).1
  · simp
end Go.Proofs.YtjdehbpgdplolaaGreatDoor

namespace Go.Proofs.YtjdehbpgdplolaaGreatDoor
open Go.RowKit

theorem hide {p : Prop} (h : p) : Hid p := h
theorem unhide {p : Prop} (h : Hid p) : p := h

def step (r : Nat) : Nat := if r % 2 = 1 then (r / 2) ^^^ 3988292384 else r / 2
def stepN : Nat → Nat → Nat
  | 0, r => r
  | k + 1, r => step (stepN k r)
def implN : Nat → Nat → Nat → Nat
  | 0, r, _ => r
  | k + 1, r, b => if (implN k r b ^^^ (b / 2 ^ k)) % 2 = 1 then (implN k r b / 2) ^^^ 3988292384 else implN k r b / 2
def byteCrc (r b : Nat) : Nat := stepN 8 (r ^^^ b)

theorem xor_div2 (a b : Nat) : (a ^^^ b) / 2 = (a / 2) ^^^ (b / 2) := by
  apply Nat.eq_of_testBit_eq; intro i
  simp [Nat.testBit_xor, ← Nat.testBit_succ]

theorem stepN_implN (k r b : Nat) : stepN k (r ^^^ b) = implN k r b ^^^ (b / 2 ^ k) := by
  induction k with
  | zero => simp [stepN, implN]
  | succ k ih =>
    have e : b / 2 ^ (k + 1) = b / 2 ^ k / 2 := by rw [Nat.pow_succ, Nat.div_div_eq_div_mul]
    simp only [stepN, step, implN, ih, e, xor_div2]
    by_cases h : (implN k r b ^^^ b / 2 ^ k) % 2 = 1
    · simp only [h, if_true]
      rw [Nat.xor_assoc, Nat.xor_assoc, Nat.xor_comm (b / 2 ^ k / 2)]
    · simp only [h, if_false]

theorem implN_8 (r b : Nat) (hb : b < 256) : implN 8 r b = byteCrc r b := by
  have h := stepN_implN 8 r b
  rw [show b / 2 ^ 8 = 0 by omega, Nat.xor_zero] at h
  exact h.symm

theorem xor_lt32 {a b : Nat} (ha : a < 4294967296) (hb : b < 4294967296) : a ^^^ b < 4294967296 := Nat.xor_lt_two_pow (n := 32) ha hb
theorem step_lt {r : Nat} (h : r < 4294967296) : step r < 4294967296 := by
  unfold step
  split
  · exact xor_lt32 (by omega) (by omega)
  · omega
theorem stepN_lt (k : Nat) {r : Nat} (h : r < 4294967296) : stepN k r < 4294967296 := by
  induction k with
  | zero => exact h
  | succ k ih => exact step_lt ih
theorem implN_lt (k b : Nat) {r : Nat} (h : r < 4294967296) : implN k r b < 4294967296 := by
  induction k with
  | zero => exact h
  | succ k ih =>
    unfold implN
    split
    · exact xor_lt32 (by omega) (by omega)
    · omega
theorem byteCrc_lt {r b : Nat} (h : r < 4294967296) (hb : b < 256) : byteCrc r b < 4294967296 := stepN_lt 8 (xor_lt32 h (by omega))

def byteN (s : ByteArray) (i : Nat) : Nat := if h : i < s.size then s[i].toNat else 0
theorem byteN_lt {s : ByteArray} {k : Nat} (h : k < s.size) : byteN s k = s[k].toNat := by simp [byteN, h]
theorem byteN_256 (s : ByteArray) (k : Nat) : byteN s k < 256 := by
  unfold byteN
  split
  · exact UInt8.toNat_lt _
  · omega
def crcTo (s : ByteArray) (r : Nat) : Nat → Nat
  | 0 => r
  | k + 1 => byteCrc (crcTo s r k) (byteN s k)
theorem crcTo_lt (s : ByteArray) {r : Nat} (h : r < 4294967296) (k : Nat) : crcTo s r k < 4294967296 := by
  induction k with
  | zero => exact h
  | succ k ih => exact byteCrc_lt ih (byteN_256 s k)
def crcOf (c : Nat) (s : ByteArray) : Nat := crcTo s (c ^^^ 4294967295) s.size ^^^ 4294967295
theorem crcOf_lt {c : Nat} (s : ByteArray) (h : c < 4294967296) : crcOf c s < 4294967296 := xor_lt32 (crcTo_lt s (xor_lt32 h (by omega)) _) (by omega)

theorem and1_u32 (a : Nat) (ha : a < 4294967296) : bits .and .u32 (a : Int) 1 = ((a % 2 : Nat) : Int) := by
  have h := u32_and_nat a 1 ha (by omega)
  rw [nat_mask1] at h
  exact h
theorem odd_u32 (x b k : Nat) (hx : x < 4294967296) (hb : b < 256) :
    bits .and .u32 (bits .xor .u32 (x : Int) ((b : Int) / 2 ^ k % 4294967296)) 1 = (((x ^^^ (b / 2 ^ k)) % 2 : Nat) : Int) := by
  have e : ((b : Int) / 2 ^ k % 4294967296) = ((b / 2 ^ k : Nat) : Int) := by
    have hle : b / 2 ^ k ≤ b := Nat.div_le_self _ _
    have : ((b : Int) / 2 ^ k) = ((b / 2 ^ k : Nat) : Int) := by push_cast; rfl
    rw [this]; clear this; generalize b / 2 ^ k = q at *; omega
  have hle : b / 2 ^ k ≤ b := Nat.div_le_self _ _
  rw [e, u32_xor_nat x (b / 2 ^ k) hx (by omega), and1_u32 _ (xor_lt32 hx (by omega))]
theorem xorAll (x : Nat) (h : x < 4294967296) : bits .xor .u32 (x : Int) 4294967295 = ((x ^^^ 4294967295 : Nat) : Int) := u32_xor_nat x 4294967295 h (by omega)
theorem u32_max : IntKind.u32.max = 4294967295 := by decide
theorem xorMax (x : Nat) (h : x < 4294967296) : bits .xor .u32 IntKind.u32.max (x : Int) = ((x ^^^ 4294967295 : Nat) : Int) := by
  rw [u32_max, Nat.xor_comm]
  exact u32_xor_nat 4294967295 x (by omega) h
theorem wrap64_u32 (x : Nat) (h : x < 4294967296) : wrap64 (x : Int) = (x : Int) := by
  unfold wrap64
  omega
end Go.Proofs.YtjdehbpgdplolaaGreatDoor

namespace Go.Proofs.YtjdehbpgdplolaaGreatDoor
open Go.RowKit
set_option linter.unusedVariables false

theorem below1 (w : World) (a : Obj) : Below w.heap.size w (w.alloc a) := (Below.refl _ _).alloc (Nat.le_refl _) _
theorem below2 (w : World) (a b : Obj) : Below w.heap.size w ((w.alloc a).alloc b) := (below1 w a).alloc (by simp) _
theorem below3 (w : World) (a b c : Obj) : Below w.heap.size w (((w.alloc a).alloc b).alloc c) := (below2 w a b).alloc (by simp; omega) _

theorem below_call {w w1 w2 : World} (h : Below w.heap.size w w1) (h2 : Below w1.heap.size w1 w2) : Below w.heap.size w w2 := h.trans (h2.mono h.size)

set_option maxRecDepth 100000 in
theorem parts_any (x y z : Int) (w : World) :
    Calls Tryz.prog 90 #[.agg #[.int .i64 x, .int .i64 y, .int .i64 z]] w fun e w' => e = .returned (.agg #[.int .i64 x, .int .i64 y, .int .i64 z]) ∧ Below w.heap.size w w' := by
  go_enter Tryz.func90, Tryz.ntmps90
  go_wp2
  exact bodyPost_ret (v := .agg #[.int .i64 x, .int .i64 y, .int .i64 z]) (by simp [results, Tryz.results90, go_sem]) rfl ⟨rfl, below2 _ _ _⟩

set_option maxRecDepth 100000 in
theorem times_any (a1 a2 a3 b1 b2 b3 : Int) (w : World) :
    Calls Tryz.prog 105 #[.agg #[.int .i64 a1, .int .i64 a2, .int .i64 a3], .agg #[.int .i64 b1, .int .i64 b2, .int .i64 b3]] w fun e w' => e = .returned (.int .i64 (dotW a1 a2 a3 b1 b2 b3)) ∧ Below w.heap.size w w' := by
  go_enter Tryz.func105, Tryz.ntmps105
  go_wp2
  go_ret
  exact ⟨rfl, below2 _ _ _⟩
set_option maxRecDepth 100000 in
theorem l02Dot_any (a1 a2 a3 b1 b2 b3 : Int) (w : World) :
    Calls Tryz.prog 65 #[.agg #[.int .i64 a1, .int .i64 a2, .int .i64 a3], .agg #[.int .i64 b1, .int .i64 b2, .int .i64 b3]] w fun e w' => e = .returned (.int .i64 (dotW a1 a2 a3 b1 b2 b3)) ∧ Below w.heap.size w w' := by
  go_enter Tryz.func65, Tryz.ntmps65
  go_wp2
  go_ret
  exact ⟨rfl, below2 _ _ _⟩

set_option maxRecDepth 100000 in
theorem l02Is_any (n lo hi : Int) (w : World) :
    Calls Tryz.prog 36 #[.int .i64 n, .int .i64 lo, .int .i64 hi] w fun e w' => e = .returned (.bool (decide (lo ≤ n) && decide (n ≤ hi))) ∧ w' = w := by
  by_cases h : lo ≤ n
  · go_enter Tryz.func36, Tryz.ntmps36
    go_wp2
    go_ret
    exact ⟨by simp [h], rfl⟩
  · go_enter Tryz.func36, Tryz.ntmps36
    go_wp2
    go_ret
    exact ⟨by simp; omega, rfl⟩
end Go.Proofs.YtjdehbpgdplolaaGreatDoor

namespace Go.Proofs.YtjdehbpgdplolaaGreatDoor
open Go.RowKit
set_option linter.unusedVariables false

theorem out1 {m x : Int} (h : ¬ (-m ≤ x ∧ x ≤ m)) : inB m x = false := by simpa [inB] using h

set_option maxRecDepth 100000 in
theorem within_any (m x y z : Int) (w : World) (hm0 : 0 ≤ m) (hm : m ≤ 1000000) :
    Calls Tryz.prog 75 #[.agg #[.int .i64 x, .int .i64 y, .int .i64 z], .int .i64 m] w fun e w' => e = .returned (.bool (withinB m x y z)) ∧ Below w.heap.size w w' := by
  have i0 : ∀ w : World, (Instr.index 129 (.agg #[.int .i64 x, .int .i64 y, .int .i64 z]) (.int .i64 0)).run Tryz.prog w = .ok (.int .i64 x) w := fun _ => by kernel_rfl
  have i1 : ∀ w : World, (Instr.index 129 (.agg #[.int .i64 x, .int .i64 y, .int .i64 z]) (.int .i64 1)).run Tryz.prog w = .ok (.int .i64 y) w := fun _ => by kernel_rfl
  have i2 : ∀ w : World, (Instr.index 129 (.agg #[.int .i64 x, .int .i64 y, .int .i64 z]) (.int .i64 2)).run Tryz.prog w = .ok (.int .i64 z) w := fun _ => by kernel_rfl
  have hwr : wrap64 (-m) = -m := wrap_id (by omega) (by omega)
  go_enter Tryz.func75, Tryz.ntmps75
  go_wp2_with fail
  refine (parts_any x y z _).mono ?_
  rintro e w1 ⟨rfl, hB1⟩
  have hB : Below w.heap.size w w1 := below_call (below1 _ _) hB1
  clear hB1
  go_wp2_with fail
  go_loop [9] (fun i => ∃ k : Nat, k ≤ 3 ∧ i = .int .i64 k ∧ Hid (0 < k → inB m x = true) ∧ Hid (1 < k → inB m y = true) ∧ Hid (2 < k → inB m z = true)) (fun i => 3 - (intOf i).toNat)
  case atStart => exact ⟨0, Nat.zero_le _, rfl, hide (by omega), hide (by omega), hide (by omega)⟩
  case round =>
    obtain ⟨k, hk, rfl, hx, hy, hz⟩ := hrel
    have hk4 : k = 0 ∨ k = 1 ∨ k = 2 ∨ k = 3 := by omega
    rcases hk4 with rfl | rfl | rfl | rfl
    · by_cases q1 : -m ≤ x
      · by_cases q2 : x ≤ m
        · have HI := hide (inB_iff.2 ⟨q1, q2⟩)
          go_wp2
          go_round
          case rel => exact ⟨1, by omega, rfl, hide (fun _ => unhide HI), hide (by omega), hide (by omega)⟩
          case measure => simp [intOf]
        · have HO := hide (out1 (m := m) (x := x) (fun h => q2 h.2))
          go_wp2
          go_ret
          exact ⟨by simp [withinB, unhide HO], hB⟩
      · have HO := hide (out1 (m := m) (x := x) (fun h => q1 h.1))
        go_wp2
        go_ret
        exact ⟨by simp [withinB, unhide HO], hB⟩
    · by_cases q1 : -m ≤ y
      · by_cases q2 : y ≤ m
        · have HI := hide (inB_iff.2 ⟨q1, q2⟩)
          go_wp2
          go_round
          case rel => exact ⟨2, by omega, rfl, hide (fun _ => unhide hx (by omega)), hide (fun _ => unhide HI), hide (by omega)⟩
          case measure => simp [intOf]
        · have HO := hide (out1 (m := m) (x := y) (fun h => q2 h.2))
          go_wp2
          go_ret
          exact ⟨by simp [withinB, unhide HO], hB⟩
      · have HO := hide (out1 (m := m) (x := y) (fun h => q1 h.1))
        go_wp2
        go_ret
        exact ⟨by simp [withinB, unhide HO], hB⟩
    · by_cases q1 : -m ≤ z
      · by_cases q2 : z ≤ m
        · have HI := hide (inB_iff.2 ⟨q1, q2⟩)
          go_wp2
          go_round
          case rel => exact ⟨3, by omega, rfl, hide (fun _ => unhide hx (by omega)), hide (fun _ => unhide hy (by omega)), hide (fun _ => unhide HI)⟩
          case measure => simp [intOf]
        · have HO := hide (out1 (m := m) (x := z) (fun h => q2 h.2))
          go_wp2
          go_ret
          exact ⟨by simp [withinB, unhide HO], hB⟩
      · have HO := hide (out1 (m := m) (x := z) (fun h => q1 h.1))
        go_wp2
        go_ret
        exact ⟨by simp [withinB, unhide HO], hB⟩
    · go_wp2
      go_ret
      exact ⟨by simp [withinB, unhide hx (by omega), unhide hy (by omega), unhide hz (by omega)], hB⟩
end Go.Proofs.YtjdehbpgdplolaaGreatDoor

namespace Go.Proofs.YtjdehbpgdplolaaGreatDoor
open Go.RowKit
set_option linter.unusedVariables false

def eqB (a1 a2 a3 b1 b2 b3 : Int) : Bool := decide (a1 = b1 ∧ a2 = b2 ∧ a3 = b3)
theorem equal_vec (a1 a2 a3 b1 b2 b3 : Int) (w : World) : (Op.equalIn 10000 54 (.agg #[.int .i64 a1, .int .i64 a2, .int .i64 a3]) (.agg #[.int .i64 b1, .int .i64 b2, .int .i64 b3])).run Tryz.prog w = .ok (eqB a1 a2 a3 b1 b2 b3) w := by
  have h := run_equalIn_struct (P := Tryz.prog) w 9999 54 #[.int .i64 a1, .int .i64 a2, .int .i64 a3] #[.int .i64 b1, .int .i64 b2, .int .i64 b3] (by kernel_rfl) (by kernel_rfl)
  have hf : (Tryz.prog.fieldsOf 54).toList = (Tryz.prog.fieldsOf 54).toList := rfl
  refine h.trans ?_
  by_cases h1 : a1 = b1
  · by_cases h2 : a2 = b2
    · by_cases h3 : a3 = b3
      · simp [go_sem, eqB, h1, h2, h3]
      · simp [go_sem, eqB, h1, h2, h3]
    · simp [go_sem, eqB, h1, h2]
  · simp [go_sem, eqB, h1]
theorem neq_vec (a1 a2 a3 b1 b2 b3 : Int) (w : World) : (binOp .neq 54 (.agg #[.int .i64 a1, .int .i64 a2, .int .i64 a3]) (.agg #[.int .i64 b1, .int .i64 b2, .int .i64 b3])).run Tryz.prog w = .ok (.bool (!eqB a1 a2 a3 b1 b2 b3)) w := by
  rw [run_neq_struct, equal_vec]; rfl
theorem eql_vec (a1 a2 a3 b1 b2 b3 : Int) (w : World) : (binOp .eql 54 (.agg #[.int .i64 a1, .int .i64 a2, .int .i64 a3]) (.agg #[.int .i64 b1, .int .i64 b2, .int .i64 b3])).run Tryz.prog w = .ok (.bool (eqB a1 a2 a3 b1 b2 b3)) w := by
  rw [run_eql_struct, equal_vec]; rfl

set_option maxRecDepth 100000 in
theorem vecRight_any (x y z : Int) (w : World) :
    Calls Tryz.prog 74 #[.agg #[.int .i64 x, .int .i64 y, .int .i64 z]] w fun e w' => e = .returned (.bool (rightB x y z)) ∧ Below w.heap.size w w' := by
  have hn := fun w => neq_vec x y z 0 0 0 w
  cases hz : eqB x y z 0 0 0
  · rw [hz] at hn
    have HR : Hid (rightB x y z = withinB 1000000 x y z) := hide (by unfold rightB; rw [show zeroB x y z = false from hz]; simp)
    go_enter Tryz.func74, Tryz.ntmps74
    go_wp2_with fail
    refine (within_any 1000000 x y z _ (by omega) (by omega)).mono ?_
    rintro e w1 ⟨rfl, hB1⟩
    have hB : Below w.heap.size w w1 := below_call (below1 _ _) hB1
    clear hB1
    go_wp2_with fail
    go_ret
    exact ⟨by rw [unhide HR]; rfl, hB⟩
  · rw [hz] at hn
    have HR : Hid (rightB x y z = false) := hide (by unfold rightB; rw [show zeroB x y z = true from hz]; simp)
    go_enter Tryz.func74, Tryz.ntmps74
    go_wp2_with fail
    go_ret
    exact ⟨by rw [unhide HR]; rfl, below1 _ _⟩

theorem isB (m x : Int) : (decide (-m ≤ x) && decide (x ≤ m)) = inB m x := by unfold inB; rw [Bool.decide_and]

set_option maxRecDepth 100000 in
theorem l02Within_any (m x y z : Int) (w : World) (hm0 : 0 ≤ m) (hm : m ≤ 1000000) :
    Calls Tryz.prog 59 #[.agg #[.int .i64 x, .int .i64 y, .int .i64 z], .int .i64 m] w fun e w' => e = .returned (.bool (withinB m x y z)) ∧ Below w.heap.size w w' := by
  have hwr : wrap64 (-m) = -m := wrap_id (by omega) (by omega)
  go_enter Tryz.func59, Tryz.ntmps59
  go_wp2_with fail
  refine (l02Is_any x (-m) m _).mono ?_
  rintro e w1 ⟨rfl, rfl⟩
  rw [isB]
  cases hx : inB m x
  · go_wp2_with fail
    go_ret
    exact ⟨by simp [withinB, hx], below1 _ _⟩
  · go_wp2_with fail
    refine (l02Is_any y (-m) m _).mono ?_
    rintro e w1 ⟨rfl, rfl⟩
    rw [isB]
    cases hy : inB m y
    · go_wp2_with fail
      go_ret
      exact ⟨by simp [withinB, hy], below1 _ _⟩
    · go_wp2_with fail
      refine (l02Is_any z (-m) m _).mono ?_
      rintro e w1 ⟨rfl, rfl⟩
      rw [isB]
      go_wp2_with fail
      go_ret
      exact ⟨by simp [withinB, hx, hy], below1 _ _⟩

set_option maxRecDepth 100000 in
theorem specRight_any (x y z : Int) (w : World) :
    Calls Tryz.prog 58 #[.agg #[.int .i64 x, .int .i64 y, .int .i64 z]] w fun e w' => e = .returned (.bool (rightB x y z)) ∧ Below w.heap.size w w' := by
  have hn := fun w => neq_vec x y z 0 0 0 w
  go_enter Tryz.func58, Tryz.ntmps58
  go_wp2_with fail
  refine (l02Within_any 1000000 x y z _ (by omega) (by omega)).mono ?_
  rintro e w1 ⟨rfl, hB1⟩
  have hB : Below w.heap.size w w1 := below_call (below1 _ _) hB1
  have hc : ∀ i : Nat, w1.cell? ⟨w.heap.size, i, none⟩ = _ := fun i => hB1.cell (p := ⟨w.heap.size, i, none⟩) (by simp)
  have c0 := hc 0
  have c1 := hc 1
  have c2 := hc 2
  simp at c0 c1 c2
  clear hB1 hc
  cases hx : withinB 1000000 x y z
  · go_wp2_with fail
    go_ret
    exact ⟨by simp [rightB, hx], hB⟩
  · go_wp2_with fail
    go_ret
    exact ⟨by simp [rightB, hx]; rfl, hB⟩
end Go.Proofs.YtjdehbpgdplolaaGreatDoor

namespace Go.Proofs.YtjdehbpgdplolaaGreatDoor
open Go.RowKit
set_option linter.unusedVariables false

def VecAt (w : World) (b : Nat) (x y z : Int) : Prop := w.cell? ⟨b, 0, none⟩ = some (.int .i64 x) ∧ w.cell? ⟨b, 1, none⟩ = some (.int .i64 y) ∧ w.cell? ⟨b, 2, none⟩ = some (.int .i64 z)
def FreeAt (w : World) (b : Nat) : Prop := w.frozen? ⟨b, 0, none⟩ = false ∧ w.frozen? ⟨b, 1, none⟩ = false ∧ w.frozen? ⟨b, 2, none⟩ = false
theorem VecAt.kept {w w' : World} {b : Nat} {x y z : Int} (h : VecAt w b x y z) (hb : b < w.heap.size) (hB : Below w.heap.size w w') : VecAt w' b x y z := by
  obtain ⟨h0, h1, h2⟩ := h
  exact ⟨by rw [hB.cell (p := ⟨b, 0, none⟩) hb]; exact h0, by rw [hB.cell (p := ⟨b, 1, none⟩) hb]; exact h1, by rw [hB.cell (p := ⟨b, 2, none⟩) hb]; exact h2⟩
theorem FreeAt.kept {w w' : World} {b : Nat} (h : FreeAt w b) (hb : b < w.heap.size) (hB : Below w.heap.size w w') : FreeAt w' b := by
  obtain ⟨h0, h1, h2⟩ := h
  exact ⟨by rw [hB.frozen (p := ⟨b, 0, none⟩) hb]; exact h0, by rw [hB.frozen (p := ⟨b, 1, none⟩) hb]; exact h1, by rw [hB.frozen (p := ⟨b, 2, none⟩) hb]; exact h2⟩
theorem vecAt_new (w : World) (x y z : Int) (t : TypeId) : VecAt (w.alloc (.cells #[.int .i64 x, .int .i64 y, .int .i64 z] t)) w.heap.size x y z := by
  refine ⟨?_, ?_, ?_⟩ <;> simp
theorem freeAt_new (w : World) (x y z : Int) (t : TypeId) : FreeAt (w.alloc (.cells #[.int .i64 x, .int .i64 y, .int .i64 z] t)) w.heap.size := by
  refine ⟨?_, ?_, ?_⟩ <;> simp
theorem VecAt.alloc {w : World} {b : Nat} {x y z : Int} (h : VecAt w b x y z) (hb : b < w.heap.size) (o : Obj) : VecAt (w.alloc o) b x y z := h.kept hb (below1 _ _)
theorem below_set3 {w w1 : World} {b : Nat} (h : Below w.heap.size w w1) (hb : w.heap.size ≤ b) (x y z : Value) : Below w.heap.size w (((w1.setCell ⟨b, 0, none⟩ x).setCell ⟨b, 1, none⟩ y).setCell ⟨b, 2, none⟩ z) := ((h.setCell hb _).setCell hb _).setCell hb _
theorem below4 (w : World) (a b c d : Obj) : Below w.heap.size w ((((w.alloc a).alloc b).alloc c).alloc d) := (below3 w a b c).alloc (by simp; omega) _

set_option maxRecDepth 100000 in
theorem dot_any (a1 a2 a3 b1 b2 b3 : Int) (w : World) :
    Calls Tryz.prog 92 #[.agg #[.int .i64 a1, .int .i64 a2, .int .i64 a3], .agg #[.int .i64 b1, .int .i64 b2, .int .i64 b3]] w fun e w' => e = .returned (.int .i64 (dotI a1 a2 a3 b1 b2 b3)) ∧ Below w.heap.size w w' := by
  go_enter Tryz.func92, Tryz.ntmps92
  go_wp2_with fail
  refine (vecRight_any a1 a2 a3 _).mono ?_
  rintro e w1 ⟨rfl, hB1⟩
  have hB : Below w.heap.size w w1 := below_call (below2 _ _ _) hB1
  have hs : w.heap.size + 2 ≤ w1.heap.size := by have := hB1.size; simpa [Nat.add_assoc] using this
  have va : VecAt w1 w.heap.size a1 a2 a3 := ((by simpa using vecAt_new w a1 a2 a3 _ : VecAt _ w.heap.size a1 a2 a3).alloc (by simp) _).kept (by simp; omega) hB1
  have vb : VecAt w1 (w.heap.size + 1) b1 b2 b3 := (by simpa using vecAt_new (w.alloc _) b1 b2 b3 _ : VecAt _ (w.heap.size + 1) b1 b2 b3).kept (by simp) hB1
  clear hB1
  have hva := va
  obtain ⟨ca0, ca1, ca2⟩ := va
  have hvb := vb
  obtain ⟨cb0, cb1, cb2⟩ := vb
  cases ha : rightB a1 a2 a3
  · go_wp2_with fail
    go_ret
    exact ⟨by simp [dotI, ha], hB⟩
  · go_wp2_with fail
    refine (vecRight_any b1 b2 b3 _).mono ?_
    rintro e w2 ⟨rfl, hB2⟩
    have va := hva.kept (by omega) hB2
    have vb := hvb.kept (by omega) hB2
    replace hs : w.heap.size + 2 ≤ w2.heap.size := by have := hB2.size; omega
    replace hB : Below w.heap.size w w2 := below_call hB hB2
    clear hva ca0 ca1 ca2 hvb cb0 cb1 cb2
    clear hB2
    have hva := va
    obtain ⟨ca0, ca1, ca2⟩ := va
    have hvb := vb
    obtain ⟨cb0, cb1, cb2⟩ := vb
    cases hb : rightB b1 b2 b3
    · go_wp2_with fail
      go_ret
      exact ⟨by simp [dotI, hb], hB⟩
    · go_wp2_with fail
      refine (times_any a1 a2 a3 b1 b2 b3 _).mono ?_
      rintro e w3 ⟨rfl, hB3⟩
      go_wp2_with fail
      go_ret
      exact ⟨by simp [dotI, ha, hb], below_call hB hB3⟩
set_option maxRecDepth 100000 in
theorem cross_any (a1 a2 a3 b1 b2 b3 : Int) (w : World) :
    Calls Tryz.prog 91 #[.agg #[.int .i64 a1, .int .i64 a2, .int .i64 a3], .agg #[.int .i64 b1, .int .i64 b2, .int .i64 b3]] w fun e w' => e = .returned (.agg #[.int .i64 (crI (rightB a1 a2 a3 && rightB b1 b2 b3) a2 a3 b2 b3), .int .i64 (crI (rightB a1 a2 a3 && rightB b1 b2 b3) a3 a1 b3 b1), .int .i64 (crI (rightB a1 a2 a3 && rightB b1 b2 b3) a1 a2 b1 b2)]) ∧ Below w.heap.size w w' := by
  go_enter Tryz.func91, Tryz.ntmps91
  go_wp2_with fail
  refine (vecRight_any a1 a2 a3 _).mono ?_
  rintro e w1 ⟨rfl, hB1⟩
  have hB : Below w.heap.size w w1 := below_call (below3 _ _ _ _) hB1
  have hs : w.heap.size + 3 ≤ w1.heap.size := by have := hB1.size; simpa [Nat.add_assoc] using this
  have va : VecAt w1 w.heap.size a1 a2 a3 := (((by simpa using vecAt_new w a1 a2 a3 _ : VecAt _ w.heap.size a1 a2 a3).alloc (by simp) _).alloc (by simp; omega) _).kept (by simp; omega) hB1
  have vb : VecAt w1 (w.heap.size + 1) b1 b2 b3 := ((by simpa using vecAt_new (w.alloc _) b1 b2 b3 _ : VecAt _ (w.heap.size + 1) b1 b2 b3).alloc (by simp) _).kept (by simp) hB1
  have vr : VecAt w1 (w.heap.size + 1 + 1) 0 0 0 := (by simpa using vecAt_new ((w.alloc _).alloc _) 0 0 0 _ : VecAt _ (w.heap.size + 1 + 1) 0 0 0).kept (by simp) hB1
  have fr : FreeAt w1 (w.heap.size + 1 + 1) := (by simpa using freeAt_new ((w.alloc _).alloc _) 0 0 0 _ : FreeAt _ (w.heap.size + 1 + 1)).kept (by simp) hB1
  clear hB1
  have hva := va
  obtain ⟨ca0, ca1, ca2⟩ := va
  have hvb := vb
  obtain ⟨cb0, cb1, cb2⟩ := vb
  have hvr := vr
  have hfr := fr
  obtain ⟨cr0, cr1, cr2⟩ := vr
  obtain ⟨fr0, fr1, fr2⟩ := fr
  cases ha : rightB a1 a2 a3
  · go_wp2_with fail
    exact bodyPost_ret (v := .agg #[.int .i64 0, .int .i64 0, .int .i64 0]) (by simp [results, Tryz.results91, go_sem, cr0, cr1, cr2]) rfl ⟨by simp [crI, ha], below_set3 hB (by omega) _ _ _⟩
  · go_wp2_with fail
    refine (vecRight_any b1 b2 b3 _).mono ?_
    rintro e w2 ⟨rfl, hB2⟩
    have va := hva.kept (by omega) hB2
    have vb := hvb.kept (by omega) hB2
    have vr := hvr.kept (by omega) hB2
    have fr := hfr.kept (by omega) hB2
    replace hs : w.heap.size + 3 ≤ w2.heap.size := by have := hB2.size; omega
    replace hB : Below w.heap.size w w2 := below_call hB hB2
    clear hva ca0 ca1 ca2 hvb cb0 cb1 cb2 hvr hfr cr0 cr1 cr2 fr0 fr1 fr2
    clear hB2
    have hva := va
    obtain ⟨ca0, ca1, ca2⟩ := va
    have hvb := vb
    obtain ⟨cb0, cb1, cb2⟩ := vb
    have hvr := vr
    have hfr := fr
    obtain ⟨cr0, cr1, cr2⟩ := vr
    obtain ⟨fr0, fr1, fr2⟩ := fr
    cases hb : rightB b1 b2 b3
    · go_wp2_with fail
      exact bodyPost_ret (v := .agg #[.int .i64 0, .int .i64 0, .int .i64 0]) (by simp [results, Tryz.results91, go_sem, cr0, cr1, cr2]) rfl ⟨by simp [crI, hb], below_set3 hB (by omega) _ _ _⟩
    · go_wp2_with fail
      exact bodyPost_ret (v := .agg #[.int .i64 (crW a2 a3 b2 b3), .int .i64 (crW a3 a1 b3 b1), .int .i64 (crW a1 a2 b1 b2)]) (by simp [results, Tryz.results91, go_sem, cr0, cr1, cr2, crW]) rfl ⟨by simp [crI, ha, hb], below_set3 hB (by omega) _ _ _⟩
set_option maxRecDepth 100000 in
theorem l02Cross_any (a1 a2 a3 b1 b2 b3 : Int) (w : World) :
    Calls Tryz.prog 64 #[.agg #[.int .i64 a1, .int .i64 a2, .int .i64 a3], .agg #[.int .i64 b1, .int .i64 b2, .int .i64 b3]] w fun e w' => e = .returned (.agg #[.int .i64 (crW a2 a3 b2 b3), .int .i64 (crW a3 a1 b3 b1), .int .i64 (crW a1 a2 b1 b2)]) ∧ Below w.heap.size w w' := by
  go_enter Tryz.func64, Tryz.ntmps64
  go_wp2
  exact bodyPost_ret (v := .agg #[.int .i64 (crW a2 a3 b2 b3), .int .i64 (crW a3 a1 b3 b1), .int .i64 (crW a1 a2 b1 b2)]) (by simp [results, Tryz.results64, go_sem, crW]) rfl ⟨rfl, below3 _ _ _ _⟩
end Go.Proofs.YtjdehbpgdplolaaGreatDoor
