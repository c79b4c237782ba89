/- Several texts in one: TurnMath2, ModM, IdM, Plain, VecA, FrA, CmM, FrB, Bytes. -/
import Derived.WalkKit
import Derived.Laws.BitsAllLaws
import Derived.Test.YtnffnjljjecphaaDoorChecked
import Derived.Below
import Derived.Laws.StructEq
import Derived.WalkLawsBesides
import Derived.Lib.QuietBelow
import Derived.Deep.QuietTactic
import Derived.BigQuiet
import Derived.Test.YtnffnjljjecphaaDoorRows
import Derived.WalkSpells
import Derived.Lib.BufferWrite
import Derived.Lib.SlBytesRow
import Derived.Test.YtnffnjljjecphaaDoorQCommandReadOwn1
namespace Go.Proofs.YtnffnjljjecphaaDoor
open Go.RowKit
set_option linter.unusedVariables false

/- the sums as the machine has them -/
theorem apW_X {a b c d x y z : Int} (ht : inT 5 a b c d = true) (hv : withinB 1800 x y z = true) :
    wrap64 (wrap64 (wrap64 (wrap64 (wrap64 (wrap64 (wrap64 (a * a) + wrap64 (b * b)) - wrap64 (c * c)) - wrap64 (d * d)) * x) + wrap64 (wrap64 (2 * wrap64 (wrap64 (b * c) - wrap64 (a * d))) * y)) + wrap64 (wrap64 (2 * wrap64 (wrap64 (b * d) + wrap64 (a * c))) * z)) = apX a b c d x y z := by
  obtain ⟨ha, hb, hc, hd⟩ := inT_iff.1 ht
  have h1 := mulB ha ha
  have h2 := mulB hb hb
  have h3 := mulB hc hc
  have h4 := mulB hd hd
  have h5 := mulB hb hc
  have h6 := mulB ha hd
  have h7 := mulB hb hd
  have h8 := mulB ha hc
  rw [wrap_id (n := a * a) (by omega) (by omega), wrap_id (n := b * b) (by omega) (by omega), wrap_id (n := c * c) (by omega) (by omega), wrap_id (n := d * d) (by omega) (by omega), wrap_id (n := b * c) (by omega) (by omega), wrap_id (n := a * d) (by omega) (by omega), wrap_id (n := b * d) (by omega) (by omega), wrap_id (n := a * c) (by omega) (by omega),
    wrap_id (n := a * a + b * b) (by omega) (by omega), wrap_id (n := a * a + b * b - c * c) (by omega) (by omega), wrap_id (n := a * a + b * b - c * c - d * d) (by omega) (by omega), wrap_id (n := b * c - a * d) (by omega) (by omega), wrap_id (n := b * d + a * c) (by omega) (by omega), wrap_id (n := 2 * (b * c - a * d)) (by omega) (by omega), wrap_id (n := 2 * (b * d + a * c)) (by omega) (by omega)]
  exact dotW_eq (A := 100) (B := 1800) (withinB_iff.2 ⟨by omega, by omega, by omega⟩) hv (by omega)
theorem apW_Y {a b c d x y z : Int} (ht : inT 5 a b c d = true) (hv : withinB 1800 x y z = true) :
    wrap64 (wrap64 (wrap64 (wrap64 (2 * wrap64 (wrap64 (b * c) + wrap64 (a * d))) * x) + wrap64 (wrap64 (wrap64 (wrap64 (wrap64 (a * a) - wrap64 (b * b)) + wrap64 (c * c)) - wrap64 (d * d)) * y)) + wrap64 (wrap64 (2 * wrap64 (wrap64 (c * d) - wrap64 (a * b))) * z)) = apY a b c d x y z := by
  obtain ⟨ha, hb, hc, hd⟩ := inT_iff.1 ht
  have h1 := mulB ha ha
  have h2 := mulB hb hb
  have h3 := mulB hc hc
  have h4 := mulB hd hd
  have h5 := mulB hb hc
  have h6 := mulB ha hd
  have h7 := mulB hc hd
  have h8 := mulB ha hb
  rw [wrap_id (n := a * a) (by omega) (by omega), wrap_id (n := b * b) (by omega) (by omega), wrap_id (n := c * c) (by omega) (by omega), wrap_id (n := d * d) (by omega) (by omega), wrap_id (n := b * c) (by omega) (by omega), wrap_id (n := a * d) (by omega) (by omega), wrap_id (n := c * d) (by omega) (by omega), wrap_id (n := a * b) (by omega) (by omega),
    wrap_id (n := a * a - b * b) (by omega) (by omega), wrap_id (n := a * a - b * b + c * c) (by omega) (by omega), wrap_id (n := a * a - b * b + c * c - d * d) (by omega) (by omega), wrap_id (n := b * c + a * d) (by omega) (by omega), wrap_id (n := c * d - a * b) (by omega) (by omega), wrap_id (n := 2 * (b * c + a * d)) (by omega) (by omega), wrap_id (n := 2 * (c * d - a * b)) (by omega) (by omega)]
  exact dotW_eq (A := 100) (B := 1800) (withinB_iff.2 ⟨by omega, by omega, by omega⟩) hv (by omega)
theorem apW_Z {a b c d x y z : Int} (ht : inT 5 a b c d = true) (hv : withinB 1800 x y z = true) :
    wrap64 (wrap64 (wrap64 (wrap64 (2 * wrap64 (wrap64 (b * d) - wrap64 (a * c))) * x) + wrap64 (wrap64 (2 * wrap64 (wrap64 (c * d) + wrap64 (a * b))) * y)) + wrap64 (wrap64 (wrap64 (wrap64 (wrap64 (a * a) - wrap64 (b * b)) - wrap64 (c * c)) + wrap64 (d * d)) * z)) = apZ a b c d x y z := by
  obtain ⟨ha, hb, hc, hd⟩ := inT_iff.1 ht
  have h1 := mulB ha ha
  have h2 := mulB hb hb
  have h3 := mulB hc hc
  have h4 := mulB hd hd
  have h5 := mulB hb hd
  have h6 := mulB ha hc
  have h7 := mulB hc hd
  have h8 := mulB ha hb
  rw [wrap_id (n := a * a) (by omega) (by omega), wrap_id (n := b * b) (by omega) (by omega), wrap_id (n := c * c) (by omega) (by omega), wrap_id (n := d * d) (by omega) (by omega), wrap_id (n := b * d) (by omega) (by omega), wrap_id (n := a * c) (by omega) (by omega), wrap_id (n := c * d) (by omega) (by omega), wrap_id (n := a * b) (by omega) (by omega),
    wrap_id (n := a * a - b * b) (by omega) (by omega), wrap_id (n := a * a - b * b - c * c) (by omega) (by omega), wrap_id (n := a * a - b * b - c * c + d * d) (by omega) (by omega), wrap_id (n := b * d - a * c) (by omega) (by omega), wrap_id (n := c * d + a * b) (by omega) (by omega), wrap_id (n := 2 * (b * d - a * c)) (by omega) (by omega), wrap_id (n := 2 * (c * d + a * b)) (by omega) (by omega)]
  exact dotW_eq (A := 100) (B := 1800) (withinB_iff.2 ⟨by omega, by omega, by omega⟩) hv (by omega)
def smm (p q r s : Int) : Int := wrap64 (wrap64 (wrap64 (p - q) - r) - s)
theorem coW_A {s1 s2 s3 s4 t1 t2 t3 t4 : Int} (hs : inT 5 s1 s2 s3 s4 = true) (ht : inT 5 t1 t2 t3 t4 = true) :
    wrap64 (wrap64 (wrap64 (wrap64 (s1 * t1) - wrap64 (s2 * t2)) - wrap64 (s3 * t3)) - wrap64 (s4 * t4)) = coA s1 s2 s3 s4 t1 t2 t3 t4 ∧ -100 ≤ coA s1 s2 s3 s4 t1 t2 t3 t4 ∧ coA s1 s2 s3 s4 t1 t2 t3 t4 ≤ 100 := by
  obtain ⟨ha, hb, hc, hd⟩ := inT_iff.1 hs
  obtain ⟨ka, kb, kc, kd⟩ := inT_iff.1 ht
  have h1 := mulB ha ka
  have h2 := mulB hb kb
  have h3 := mulB hc kc
  have h4 := mulB hd kd
  unfold coA
  rw [wrap_id (n := s1 * t1) (by omega) (by omega), wrap_id (n := s2 * t2) (by omega) (by omega), wrap_id (n := s3 * t3) (by omega) (by omega), wrap_id (n := s4 * t4) (by omega) (by omega), wrap_id (n := s1 * t1 - s2 * t2) (by omega) (by omega), wrap_id (n := s1 * t1 - s2 * t2 - s3 * t3) (by omega) (by omega), wrap_id (by omega) (by omega)]
  omega
theorem coW_B {s1 s2 s3 s4 t1 t2 t3 t4 : Int} (hs : inT 5 s1 s2 s3 s4 = true) (ht : inT 5 t1 t2 t3 t4 = true) :
    wrap64 (wrap64 (wrap64 (wrap64 (s1 * t2) + wrap64 (s2 * t1)) + wrap64 (s3 * t4)) - wrap64 (s4 * t3)) = coB s1 s2 s3 s4 t1 t2 t3 t4 ∧ -100 ≤ coB s1 s2 s3 s4 t1 t2 t3 t4 ∧ coB s1 s2 s3 s4 t1 t2 t3 t4 ≤ 100 := by
  obtain ⟨ha, hb, hc, hd⟩ := inT_iff.1 hs
  obtain ⟨ka, kb, kc, kd⟩ := inT_iff.1 ht
  have h1 := mulB ha kb
  have h2 := mulB hb ka
  have h3 := mulB hc kd
  have h4 := mulB hd kc
  unfold coB
  rw [wrap_id (n := s1 * t2) (by omega) (by omega), wrap_id (n := s2 * t1) (by omega) (by omega), wrap_id (n := s3 * t4) (by omega) (by omega), wrap_id (n := s4 * t3) (by omega) (by omega), wrap_id (n := s1 * t2 + s2 * t1) (by omega) (by omega), wrap_id (n := s1 * t2 + s2 * t1 + s3 * t4) (by omega) (by omega), wrap_id (by omega) (by omega)]
  omega
theorem coW_C {s1 s2 s3 s4 t1 t2 t3 t4 : Int} (hs : inT 5 s1 s2 s3 s4 = true) (ht : inT 5 t1 t2 t3 t4 = true) :
    wrap64 (wrap64 (wrap64 (wrap64 (s1 * t3) - wrap64 (s2 * t4)) + wrap64 (s3 * t1)) + wrap64 (s4 * t2)) = coC s1 s2 s3 s4 t1 t2 t3 t4 ∧ -100 ≤ coC s1 s2 s3 s4 t1 t2 t3 t4 ∧ coC s1 s2 s3 s4 t1 t2 t3 t4 ≤ 100 := by
  obtain ⟨ha, hb, hc, hd⟩ := inT_iff.1 hs
  obtain ⟨ka, kb, kc, kd⟩ := inT_iff.1 ht
  have h1 := mulB ha kc
  have h2 := mulB hb kd
  have h3 := mulB hc ka
  have h4 := mulB hd kb
  unfold coC
  rw [wrap_id (n := s1 * t3) (by omega) (by omega), wrap_id (n := s2 * t4) (by omega) (by omega), wrap_id (n := s3 * t1) (by omega) (by omega), wrap_id (n := s4 * t2) (by omega) (by omega), wrap_id (n := s1 * t3 - s2 * t4) (by omega) (by omega), wrap_id (n := s1 * t3 - s2 * t4 + s3 * t1) (by omega) (by omega), wrap_id (by omega) (by omega)]
  omega
theorem coW_D {s1 s2 s3 s4 t1 t2 t3 t4 : Int} (hs : inT 5 s1 s2 s3 s4 = true) (ht : inT 5 t1 t2 t3 t4 = true) :
    wrap64 (wrap64 (wrap64 (wrap64 (s1 * t4) + wrap64 (s2 * t3)) - wrap64 (s3 * t2)) + wrap64 (s4 * t1)) = coD s1 s2 s3 s4 t1 t2 t3 t4 ∧ -100 ≤ coD s1 s2 s3 s4 t1 t2 t3 t4 ∧ coD s1 s2 s3 s4 t1 t2 t3 t4 ≤ 100 := by
  obtain ⟨ha, hb, hc, hd⟩ := inT_iff.1 hs
  obtain ⟨ka, kb, kc, kd⟩ := inT_iff.1 ht
  have h1 := mulB ha kd
  have h2 := mulB hb kc
  have h3 := mulB hc kb
  have h4 := mulB hd ka
  unfold coD
  rw [wrap_id (n := s1 * t4) (by omega) (by omega), wrap_id (n := s2 * t3) (by omega) (by omega), wrap_id (n := s3 * t2) (by omega) (by omega), wrap_id (n := s4 * t1) (by omega) (by omega), wrap_id (n := s1 * t4 + s2 * t3) (by omega) (by omega), wrap_id (n := s1 * t4 + s2 * t3 - s3 * t2) (by omega) (by omega), wrap_id (by omega) (by omega)]
  omega

/- what the calls answer -/
def apR (a b c d x y z : Int) : Bool := rightT a b c d && wideB x y z
def apI (r : Bool) (v : Int) : Int := if r then v else 0
def coR (s1 s2 s3 s4 t1 t2 t3 t4 : Int) : Bool := rightT s1 s2 s3 s4 && rightT t1 t2 t3 t4
def coK (s1 s2 s3 s4 t1 t2 t3 t4 : Int) : Int :=
  if coR s1 s2 s3 s4 t1 t2 t3 t4 then ofC (coA s1 s2 s3 s4 t1 t2 t3 t4) (coB s1 s2 s3 s4 t1 t2 t3 t4) (coC s1 s2 s3 s4 t1 t2 t3 t4) (coD s1 s2 s3 s4 t1 t2 t3 t4) else 1
def coP (s1 s2 s3 s4 t1 t2 t3 t4 v : Int) : Int :=
  if coR s1 s2 s3 s4 t1 t2 t3 t4 then ofP (coA s1 s2 s3 s4 t1 t2 t3 t4) (coB s1 s2 s3 s4 t1 t2 t3 t4) (coC s1 s2 s3 s4 t1 t2 t3 t4) (coD s1 s2 s3 s4 t1 t2 t3 t4) v else 0

/- lengths -/
theorem absLe {x m : Int} (hm : 0 ≤ m) (h : x * x ≤ m * m) : -m ≤ x ∧ x ≤ m := by
  have h1 : x.natAbs * x.natAbs ≤ m.natAbs * m.natAbs := by
    have e1 := Int.natAbs_mul_self' x
    have e2 := Int.natAbs_mul_self' m
    omega
  have := Nat.mul_self_le_mul_self_iff.1 h1
  omega
theorem ap_bound {a b c d x y z D M : Int} (ht : rightT a b c d = true) (hD : dot x y z x y z ≤ D) (hM : 0 ≤ M) (h : 10000 * D ≤ M * M) : withinB M (apX a b c d x y z) (apY a b c d x y z) (apZ a b c d x y z) = true := by
  have hn := nT_le (rightT_iff.1 ht).1
  have hp := nT_pos (rightT_ne ht)
  have hn2 := mulB (A := 100) (B := 100) (a := nT a b c d) (b := nT a b c d) (by omega) (by omega)
  have hd := ap_dot a b c d x y z x y z
  have h0 : 0 ≤ dot x y z x y z := by have h1 := sqn x; have h2 := sqn y; have h3 := sqn z; unfold dot; omega
  have hm := mulB (A := 10000) (B := D) (a := nT a b c d * nT a b c d) (b := dot x y z x y z) (by omega) (by omega)
  have s1 := sqn (apX a b c d x y z)
  have s2 := sqn (apY a b c d x y z)
  have s3 := sqn (apZ a b c d x y z)
  have hdd : dot (apX a b c d x y z) (apY a b c d x y z) (apZ a b c d x y z) (apX a b c d x y z) (apY a b c d x y z) (apZ a b c d x y z) = apX a b c d x y z * apX a b c d x y z + apY a b c d x y z * apY a b c d x y z + apZ a b c d x y z * apZ a b c d x y z := rfl
  rw [withinB_iff]
  exact ⟨absLe hM (by omega), absLe hM (by omega), absLe hM (by omega)⟩
theorem ap_ne {a b c d x y z : Int} (ht : rightT a b c d = true) (hz : ¬ (x = 0 ∧ y = 0 ∧ z = 0)) : ¬ (apX a b c d x y z = 0 ∧ apY a b c d x y z = 0 ∧ apZ a b c d x y z = 0) := by
  rintro ⟨h1, h2, h3⟩
  have hp := nT_pos (rightT_ne ht)
  have hd := ap_dot a b c d x y z x y z
  rw [h1, h2, h3] at hd
  have := Int.mul_pos (Int.mul_pos hp hp) (sq_pos hz)
  rw [← hd] at this
  exact absurd this (by decide)
theorem right_of {M x y z : Int} (hM : M ≤ 1000000) (h : withinB M x y z = true) (hz : ¬ (x = 0 ∧ y = 0 ∧ z = 0)) : rightB x y z = true := by
  rw [withinB_iff] at h
  rw [rightB_iff]
  exact ⟨by omega, hz⟩
theorem wide_of {x y z : Int} (h : withinB 1800 x y z = true) (hz : ¬ (x = 0 ∧ y = 0 ∧ z = 0)) : wideB x y z = true := by
  unfold wideB
  rw [right_of (by omega) h hz, h]; rfl
/- a direction near ahead: what the law draws -/
def nearB (x y z : Int) : Prop := (-4 ≤ x ∧ x ≤ 4) ∧ (-4 ≤ y ∧ y ≤ 4) ∧ (1 ≤ z ∧ z ≤ 9)
theorem near_dot {x y z : Int} (h : nearB x y z) : dot x y z x y z ≤ 113 := by
  obtain ⟨hx, hy, hz⟩ := h
  have h1 := mulB hx hx
  have h2 := mulB hy hy
  have h3 := mulB (A := 9) (B := 9) (a := z) (b := z) (by omega) (by omega)
  unfold dot
  omega
theorem near_ne {x y z : Int} (h : nearB x y z) : ¬ (x = 0 ∧ y = 0 ∧ z = 0) := by
  obtain ⟨hx, hy, hz⟩ := h
  omega
theorem near_wide {x y z : Int} (h : nearB x y z) : wideB x y z = true := by
  refine wide_of ?_ (near_ne h)
  obtain ⟨hx, hy, hz⟩ := h
  rw [withinB_iff]
  omega
theorem near_small {x y z : Int} (h : nearB x y z) : smallB x y z = true := by
  have h0 := near_ne h
  obtain ⟨hx, hy, hz⟩ := h
  have hw : withinB 10 x y z = true := by rw [withinB_iff]; omega
  unfold smallB
  rw [right_of (by omega) hw h0, hw]; rfl
theorem near_ap {a b c d x y z : Int} (ht : rightT a b c d = true) (h : nearB x y z) : wideB (apX a b c d x y z) (apY a b c d x y z) (apZ a b c d x y z) = true :=
  wide_of (ap_bound ht (near_dot h) (by omega) (by omega)) (ap_ne ht (near_ne h))

/- a turn keeps angles -/
theorem ssq_scale {k x : Int} (hk : 0 < k) : ssq (k * x) = k * k * ssq x := by
  unfold ssq
  by_cases h : x < 0
  · rw [if_pos h, if_pos (Int.mul_neg_of_pos_of_neg hk h)]; grind
  · rw [if_neg h, if_neg (by have := Int.mul_nonneg (Int.le_of_lt hk) (by omega : 0 ≤ x); omega)]; grind
theorem cos_keeps {a b c d x y z x' y' z' : Int} (ht : rightT a b c d = true) :
    cosI (apX a b c d x y z) (apY a b c d x y z) (apZ a b c d x y z) (apX a b c d x' y' z') (apY a b c d x' y' z') (apZ a b c d x' y' z') x y z x' y' z' = 0 := by
  have hp := nT_pos (rightT_ne ht)
  unfold cosI
  split
  · rw [ap_dot, ap_dot, ap_dot, ssq_scale (Int.mul_pos hp hp)]
    have : nT a b c d * nT a b c d * (nT a b c d * nT a b c d) * ssq (dot x y z x' y' z') * (dot x y z x y z * dot x' y' z' x' y' z') = ssq (dot x y z x' y' z') * (nT a b c d * nT a b c d * dot x y z x y z * (nT a b c d * nT a b c d * dot x' y' z' x' y' z')) := by
      generalize nT a b c d = n
      generalize ssq (dot x y z x' y' z') = s
      generalize dot x y z x y z = p
      generalize dot x' y' z' x' y' z' = q
      grind
    rw [this]
    simp [ordI]
  · rfl

/- the same way, by multiples -/
theorem same_of {m g x y z u v t : Int} (hm : 0 < m) (hg : 0 < g) (h1 : rightB x y z = true) (h2 : rightB u v t = true) (ex : m * x = g * u) (ey : m * y = g * v) (ez : m * z = g * t) : sameB x y z u v t = true := by
  have a := (rightB_iff.1 h1).1
  have b := (rightB_iff.1 h2).1
  have hx := sq_pos (rightB_iff.1 h1).2
  have c1 : x * v - y * u = 0 := by
    have : g * (x * v - y * u) = 0 := by grind
    rcases Int.mul_eq_zero.1 this with e | e
    · omega
    · exact e
  have c2 : y * t - z * v = 0 := by
    have : g * (y * t - z * v) = 0 := by grind
    rcases Int.mul_eq_zero.1 this with e | e
    · omega
    · exact e
  have c3 : z * u - x * t = 0 := by
    have : g * (z * u - x * t) = 0 := by grind
    rcases Int.mul_eq_zero.1 this with e | e
    · omega
    · exact e
  have hd : 0 < dot x y z u v t := by
    have e : g * dot x y z u v t = m * dot x y z x y z := by unfold dot; grind
    have hp := Int.mul_pos hm hx
    rcases Int.lt_or_le 0 (dot x y z u v t) with h | h
    · exact h
    · have : g * dot x y z u v t ≤ 0 := by
        have := Int.mul_le_mul_of_nonneg_left h (Int.le_of_lt hg)
        simpa using this
      omega
  unfold sameB
  rw [h1, h2, (crW_eq a.2.1 a.2.2 b.2.1 b.2.2 (by omega)).1, (crW_eq a.2.2 a.1 b.2.2 b.1 (by omega)).1, (crW_eq a.1 a.2.1 b.1 b.2.1 (by omega)).1, dotW_eq (A := 1000000) (B := 1000000) (withinB_iff.2 a) (withinB_iff.2 b) (by omega), c1, c2, c3]
  simp [zeroB, hd]
/- the prime of a direction, and it, many times -/
theorem gI_dvd (x y z : Int) : gI x y z ∣ x ∧ gI x y z ∣ y ∧ gI x y z ∣ z := by
  have h1 := Int.gcd_dvd_left (a := ((Int.gcd x y : Nat) : Int)) (b := z)
  exact ⟨Int.dvd_trans h1 (Int.gcd_dvd_left ..), Int.dvd_trans h1 (Int.gcd_dvd_right ..), Int.gcd_dvd_right ..⟩
theorem prime_of {x y z : Int} (h : rightB x y z = true) : ∃ p q r : Int, prI true (gI x y z) x = p ∧ prI true (gI x y z) y = q ∧ prI true (gI x y z) z = r ∧ x = gI x y z * p ∧ y = gI x y z * q ∧ z = gI x y z * r ∧ 0 < gI x y z := by
  have hg := gI_pos h
  have hb := (rightB_iff.1 h).1
  obtain ⟨⟨p, hp⟩, ⟨q, hq⟩, ⟨r, hr⟩⟩ := gI_dvd x y z
  have key : ∀ {n k : Int}, (-1000000 ≤ n ∧ n ≤ 1000000) → n = gI x y z * k → prI true (gI x y z) n = k := by
    intro n k hn e
    have e1 : n.tdiv (gI x y z) = k := by rw [e]; exact Int.mul_tdiv_cancel_left k (by omega)
    have hb := tdiv_le (s := gI x y z) hn
    unfold prI
    rw [if_pos rfl, e1]
    rw [e1] at hb
    exact wrap_id (by omega) (by omega)
  exact ⟨p, q, r, key hb.1 hp, key hb.2.1 hq, key hb.2.2 hr, hp, hq, hr, hg⟩
theorem part_le {g p m : Int} (hg : 0 < g) (h : -m ≤ g * p ∧ g * p ≤ m) : -m ≤ p ∧ p ≤ m := by
  have h1 : (g * p).natAbs = g.natAbs * p.natAbs := Int.natAbs_mul g p
  have h2 : p.natAbs ≤ g.natAbs * p.natAbs := Nat.le_mul_of_pos_left _ (by omega)
  omega
end Go.Proofs.YtnffnjljjecphaaDoor

namespace Go.Proofs.YtnffnjljjecphaaDoor
set_option linter.unusedVariables false

structure Tk where
  L : List St
  lim : Int
  mode : Int
  A : Int
  B : Int
  C : Int
  D : Int
  coast : Int
  fr : Int
def spanB (lo hi x : Int) : Bool := decide (lo ≤ x) && decide (x ≤ hi)
def modeB (t : Tk) : Bool :=
  if t.mode = 0 then eqT t.A t.B t.C t.D 0 0 0 0 && decide (t.coast = 0)
  else if t.mode = 1 then rightT t.A t.B t.C t.D && decide (t.coast = 0)
  else if t.mode = 2 then rightT t.A t.B t.C t.D && spanB 1 t.lim t.coast
  else false
def headB (t : Tk) : Bool := skyB t.L && spanB 1 5 t.lim && spanB 0 1000000 t.fr
def trackB (t : Tk) : Bool := headB t && modeB t
theorem span_yes {lo hi x : Int} (h1 : lo ≤ x) (h2 : x ≤ hi) : spanB lo hi x = true := by unfold spanB; rw [decide_eq_true h1, decide_eq_true h2]; rfl
theorem span_low {lo hi x : Int} (h : ¬ lo ≤ x) : spanB lo hi x = false := by unfold spanB; rw [decide_eq_false h]; rfl
theorem span_high {lo hi x : Int} (h : ¬ x ≤ hi) : spanB lo hi x = false := by unfold spanB; rw [decide_eq_false h]; simp
theorem span_iff {lo hi x : Int} : spanB lo hi x = true ↔ lo ≤ x ∧ x ≤ hi := by unfold spanB; simp
theorem track_no1 {t : Tk} (h : skyB t.L = false) : trackB t = false := by unfold trackB headB; rw [h]; rfl
theorem track_no2 {t : Tk} (h : spanB 1 5 t.lim = false) : trackB t = false := by unfold trackB headB; rw [h]; simp
theorem track_no3 {t : Tk} (h : spanB 0 1000000 t.fr = false) : trackB t = false := by unfold trackB headB; rw [h]; simp
theorem track_head {t : Tk} (h1 : skyB t.L = true) (h2 : spanB 1 5 t.lim = true) (h3 : spanB 0 1000000 t.fr = true) : trackB t = modeB t := by unfold trackB headB; rw [h1, h2, h3]; rfl
theorem mode_0 {t : Tk} (h : t.mode = 0) : modeB t = (eqT t.A t.B t.C t.D 0 0 0 0 && decide (t.coast = 0)) := by unfold modeB; rw [if_pos h]
theorem mode_1 {t : Tk} (h : t.mode = 1) : modeB t = (rightT t.A t.B t.C t.D && decide (t.coast = 0)) := by unfold modeB; rw [if_neg (by omega), if_pos h]
theorem mode_2 {t : Tk} (h : t.mode = 2) : modeB t = (rightT t.A t.B t.C t.D && spanB 1 t.lim t.coast) := by unfold modeB; rw [if_neg (by omega), if_neg (by omega), if_pos h]
theorem mode_n {t : Tk} (h0 : t.mode ≠ 0) (h1 : t.mode ≠ 1) (h2 : t.mode ≠ 2) : modeB t = false := by unfold modeB; rw [if_neg h0, if_neg h1, if_neg h2]
theorem track_sky {t : Tk} (h : trackB t = true) : skyB t.L = true := by
  cases hq : skyB t.L
  · rw [track_no1 hq] at h; cases h
  · rfl
theorem track_lim {t : Tk} (h : trackB t = true) : 1 ≤ t.lim ∧ t.lim ≤ 5 := by
  cases hq : spanB 1 5 t.lim
  · rw [track_no2 hq] at h; cases h
  · exact span_iff.1 hq
theorem track_fr {t : Tk} (h : trackB t = true) : 0 ≤ t.fr ∧ t.fr ≤ 1000000 := by
  cases hq : spanB 0 1000000 t.fr
  · rw [track_no3 hq] at h; cases h
  · exact span_iff.1 hq
theorem track_mode {t : Tk} (h : trackB t = true) : modeB t = true := by unfold trackB at h; rw [Bool.and_eq_true] at h; exact h.2
/-- who is not lost has a right turn -/
theorem track_turn {t : Tk} (h : trackB t = true) (h0 : t.mode ≠ 0) : rightT t.A t.B t.C t.D = true := by
  have hm := track_mode h
  by_cases h1 : t.mode = 1
  · rw [mode_1 h1, Bool.and_eq_true] at hm; exact hm.1
  · by_cases h2 : t.mode = 2
    · rw [mode_2 h2, Bool.and_eq_true] at hm; exact hm.1
    · rw [mode_n h0 h1 h2] at hm; cases hm
/-- a tracker that is lost -/
def lostT (t : Tk) : Tk := { t with mode := 0, A := 0, B := 0, C := 0, D := 0, coast := 0 }
def zeroK : Tk := ⟨[], 0, 0, 0, 0, 0, 0, 0, 0⟩
end Go.Proofs.YtnffnjljjecphaaDoor

namespace Go.Proofs.YtnffnjljjecphaaDoor
open Go.RowKit
set_option linter.unusedVariables false

/-- a direction: X, Y and Z -/
abbrev D3 := Int × Int × Int
def vA (L : List D3) (i : Nat) : D3 := L.getD i (0, 0, 0)
def wideD (v : D3) : Bool := wideB v.1 v.2.1 v.2.2
def sameD (p q : D3) : Bool := sameB p.1 p.2.1 p.2.2 q.1 q.2.1 q.2.2
def amongB (L : List D3) (v : D3) (n : Nat) : Bool := (List.range n).any fun j => sameD v (vA L j)
def asideTo (L : List D3) (v : D3) (k : Nat) : Prop := ∀ j, j < k → sameD v (vA L j) = false
def okV (L : List D3) (i : Nat) : Bool := wideD (vA L i) && !amongB L (vA L i) i
def okVTo (L : List D3) (k : Nat) : Prop := ∀ j, j < k → okV L j = true
def spotsB (L : List D3) : Bool := decide (L.length ≤ 6) && (List.range L.length).all (okV L)

theorem among_no {L : List D3} {v : D3} {n : Nat} (h : asideTo L v n) : amongB L v n = false := by
  unfold amongB
  rw [List.any_eq_false]
  intro j hj
  rw [h j (List.mem_range.1 hj)]
  simp
theorem among_yes {L : List D3} {v : D3} {n j : Nat} (hj : j < n) (h : sameD v (vA L j) = true) : amongB L v n = true := by
  unfold amongB
  rw [List.any_eq_true]
  exact ⟨j, List.mem_range.2 hj, h⟩
theorem aside_step {L : List D3} {v : D3} {k : Nat} (h : asideTo L v k) (h1 : sameD v (vA L k) = false) : asideTo L v (k + 1) := by
  intro j hj
  by_cases e : j = k
  · rw [e]; exact h1
  · exact h j (by omega)
theorem okV_step {L : List D3} {k : Nat} (h : okVTo L k) (h1 : okV L k = true) : okVTo L (k + 1) := by
  intro j hj
  by_cases e : j = k
  · rw [e]; exact h1
  · exact h j (by omega)
theorem spots_yes {L : List D3} (hl : L.length ≤ 6) (h : okVTo L L.length) : spotsB L = true := by
  unfold spotsB
  rw [Bool.and_eq_true, List.all_eq_true]
  exact ⟨by simpa using hl, fun j hj => h j (List.mem_range.1 hj)⟩
theorem spots_no {L : List D3} {k : Nat} (hk : k < L.length) (h : okV L k = false) : spotsB L = false := by
  unfold spotsB
  have : (List.range L.length).all (okV L) = false := by
    rw [List.all_eq_false]
    exact ⟨k, List.mem_range.2 hk, by rw [h]; simp⟩
  rw [this, Bool.and_false]
theorem spots_long {L : List D3} (hl : 6 < L.length) : spotsB L = false := by
  unfold spotsB
  rw [show decide (L.length ≤ 6) = false by simp; omega, Bool.false_and]
theorem spots_ok {L : List D3} (h : spotsB L = true) : L.length ≤ 6 ∧ okVTo L L.length := by
  unfold spotsB at h
  rw [Bool.and_eq_true, List.all_eq_true] at h
  exact ⟨by simpa using h.1, fun j hj => h.2 j (List.mem_range.2 hj)⟩
theorem okV_wide {L : List D3} {i : Nat} (h : okV L i = true) : wideD (vA L i) = true := by
  unfold okV at h
  rw [Bool.and_eq_true] at h
  exact h.1
theorem wide_iff {x y z : Int} (h : wideB x y z = true) : rightB x y z = true ∧ withinB 1800 x y z = true := by simpa [wideB] using h
/-- on directions of parts to a million it does not matter which is first -/
theorem same_turned {a1 a2 a3 b1 b2 b3 : Int} (ra : rightB a1 a2 a3 = true) (rb : rightB b1 b2 b3 = true) : sameB a1 a2 a3 b1 b2 b3 = sameB b1 b2 b3 a1 a2 a3 := by
  obtain ⟨⟨x1, x2, x3⟩, _⟩ := rightB_iff.1 ra
  obtain ⟨⟨y1, y2, y3⟩, _⟩ := rightB_iff.1 rb
  have e1 := crW_eq x2 x3 y2 y3 (by omega)
  have e2 := crW_eq x3 x1 y3 y1 (by omega)
  have e3 := crW_eq x1 x2 y1 y2 (by omega)
  have f1 := crW_eq y2 y3 x2 x3 (by omega)
  have f2 := crW_eq y3 y1 x3 x1 (by omega)
  have f3 := crW_eq y1 y2 x1 x2 (by omega)
  unfold sameB
  rw [ra, rb, e1.1, e2.1, e3.1, f1.1, f2.1, f3.1, dotW_comm]
  congr 2
  unfold zeroB
  rw [Int.mul_comm b2, Int.mul_comm b3 a2, Int.mul_comm b3 a1, Int.mul_comm b1 a3, Int.mul_comm b1 a2, Int.mul_comm b2 a1]
  congr 1
  apply propext
  constructor <;> rintro ⟨h1, h2, h3⟩ <;> exact ⟨by omega, by omega, by omega⟩
theorem sameD_turned {p q : D3} (hp : wideD p = true) (hq : wideD q = true) : sameD p q = sameD q p := same_turned (wide_iff hp).1 (wide_iff hq).1
end Go.Proofs.YtnffnjljjecphaaDoor

namespace Go.Proofs.YtnffnjljjecphaaDoor
open Go.RowKit

theorem hide {p : Prop} (h : p) : Hid p := h
theorem unhide {p : Prop} (h : Hid p) : p := h

def step (r : Nat) : Nat := if r % 2 = 1 then (r / 2) ^^^ 3988292384 else r / 2
def stepN : Nat → Nat → Nat
  | 0, r => r
  | k + 1, r => step (stepN k r)
def implN : Nat → Nat → Nat → Nat
  | 0, r, _ => r
  | k + 1, r, b => if (implN k r b ^^^ (b / 2 ^ k)) % 2 = 1 then (implN k r b / 2) ^^^ 3988292384 else implN k r b / 2
def byteCrc (r b : Nat) : Nat := stepN 8 (r ^^^ b)

theorem xor_div2 (a b : Nat) : (a ^^^ b) / 2 = (a / 2) ^^^ (b / 2) := by
  apply Nat.eq_of_testBit_eq; intro i
  simp [Nat.testBit_xor, ← Nat.testBit_succ]

theorem stepN_implN (k r b : Nat) : stepN k (r ^^^ b) = implN k r b ^^^ (b / 2 ^ k) := by
  induction k with
  | zero => simp [stepN, implN]
  | succ k ih =>
    have e : b / 2 ^ (k + 1) = b / 2 ^ k / 2 := by rw [Nat.pow_succ, Nat.div_div_eq_div_mul]
    simp only [stepN, step, implN, ih, e, xor_div2]
    by_cases h : (implN k r b ^^^ b / 2 ^ k) % 2 = 1
    · simp only [h, if_true]
      rw [Nat.xor_assoc, Nat.xor_assoc, Nat.xor_comm (b / 2 ^ k / 2)]
    · simp only [h, if_false]

theorem implN_8 (r b : Nat) (hb : b < 256) : implN 8 r b = byteCrc r b := by
  have h := stepN_implN 8 r b
  rw [show b / 2 ^ 8 = 0 by omega, Nat.xor_zero] at h
  exact h.symm

theorem xor_lt32 {a b : Nat} (ha : a < 4294967296) (hb : b < 4294967296) : a ^^^ b < 4294967296 := Nat.xor_lt_two_pow (n := 32) ha hb
theorem step_lt {r : Nat} (h : r < 4294967296) : step r < 4294967296 := by
  unfold step
  split
  · exact xor_lt32 (by omega) (by omega)
  · omega
theorem stepN_lt (k : Nat) {r : Nat} (h : r < 4294967296) : stepN k r < 4294967296 := by
  induction k with
  | zero => exact h
  | succ k ih => exact step_lt ih
theorem implN_lt (k b : Nat) {r : Nat} (h : r < 4294967296) : implN k r b < 4294967296 := by
  induction k with
  | zero => exact h
  | succ k ih =>
    unfold implN
    split
    · exact xor_lt32 (by omega) (by omega)
    · omega
theorem byteCrc_lt {r b : Nat} (h : r < 4294967296) (hb : b < 256) : byteCrc r b < 4294967296 := stepN_lt 8 (xor_lt32 h (by omega))

def byteN (s : ByteArray) (i : Nat) : Nat := if h : i < s.size then s[i].toNat else 0
theorem byteN_lt {s : ByteArray} {k : Nat} (h : k < s.size) : byteN s k = s[k].toNat := by simp [byteN, h]
theorem byteN_256 (s : ByteArray) (k : Nat) : byteN s k < 256 := by
  unfold byteN
  split
  · exact UInt8.toNat_lt _
  · omega
def crcTo (s : ByteArray) (r : Nat) : Nat → Nat
  | 0 => r
  | k + 1 => byteCrc (crcTo s r k) (byteN s k)
theorem crcTo_lt (s : ByteArray) {r : Nat} (h : r < 4294967296) (k : Nat) : crcTo s r k < 4294967296 := by
  induction k with
  | zero => exact h
  | succ k ih => exact byteCrc_lt ih (byteN_256 s k)
def crcOf (c : Nat) (s : ByteArray) : Nat := crcTo s (c ^^^ 4294967295) s.size ^^^ 4294967295
theorem crcOf_lt {c : Nat} (s : ByteArray) (h : c < 4294967296) : crcOf c s < 4294967296 := xor_lt32 (crcTo_lt s (xor_lt32 h (by omega)) _) (by omega)

theorem and1_u32 (a : Nat) (ha : a < 4294967296) : bits .and .u32 (a : Int) 1 = ((a % 2 : Nat) : Int) := by
  have h := u32_and_nat a 1 ha (by omega)
  rw [nat_mask1] at h
  exact h
theorem odd_u32 (x b k : Nat) (hx : x < 4294967296) (hb : b < 256) :
    bits .and .u32 (bits .xor .u32 (x : Int) ((b : Int) / 2 ^ k % 4294967296)) 1 = (((x ^^^ (b / 2 ^ k)) % 2 : Nat) : Int) := by
  have e : ((b : Int) / 2 ^ k % 4294967296) = ((b / 2 ^ k : Nat) : Int) := by
    have hle : b / 2 ^ k ≤ b := Nat.div_le_self _ _
    have : ((b : Int) / 2 ^ k) = ((b / 2 ^ k : Nat) : Int) := by push_cast; rfl
    rw [this]; clear this; generalize b / 2 ^ k = q at *; omega
  have hle : b / 2 ^ k ≤ b := Nat.div_le_self _ _
  rw [e, u32_xor_nat x (b / 2 ^ k) hx (by omega), and1_u32 _ (xor_lt32 hx (by omega))]
theorem xorAll (x : Nat) (h : x < 4294967296) : bits .xor .u32 (x : Int) 4294967295 = ((x ^^^ 4294967295 : Nat) : Int) := u32_xor_nat x 4294967295 h (by omega)
theorem u32_max : IntKind.u32.max = 4294967295 := by decide
theorem xorMax (x : Nat) (h : x < 4294967296) : bits .xor .u32 IntKind.u32.max (x : Int) = ((x ^^^ 4294967295 : Nat) : Int) := by
  rw [u32_max, Nat.xor_comm]
  exact u32_xor_nat 4294967295 x (by omega) h
theorem wrap64_u32 (x : Nat) (h : x < 4294967296) : wrap64 (x : Int) = (x : Int) := by
  unfold wrap64
  omega
end Go.Proofs.YtnffnjljjecphaaDoor

namespace Go.Proofs.YtnffnjljjecphaaDoor
open Go.RowKit
set_option linter.unusedVariables false

theorem below1 (w : World) (a : Obj) : Below w.heap.size w (w.alloc a) := (Below.refl _ _).alloc (Nat.le_refl _) _
theorem below2 (w : World) (a b : Obj) : Below w.heap.size w ((w.alloc a).alloc b) := (below1 w a).alloc (by simp) _
theorem below3 (w : World) (a b c : Obj) : Below w.heap.size w (((w.alloc a).alloc b).alloc c) := (below2 w a b).alloc (by simp; omega) _

theorem below_call {w w1 w2 : World} (h : Below w.heap.size w w1) (h2 : Below w1.heap.size w1 w2) : Below w.heap.size w w2 := h.trans (h2.mono h.size)

set_option maxRecDepth 100000 in
theorem parts_any (x y z : Int) (w : World) :
    Calls Tryd.prog 121 #[.agg #[.int .i64 x, .int .i64 y, .int .i64 z]] w fun e w' => e = .returned (.agg #[.int .i64 x, .int .i64 y, .int .i64 z]) ∧ Below w.heap.size w w' := by
  go_enter Tryd.func121, Tryd.ntmps121
  go_wp2
  exact bodyPost_ret (v := .agg #[.int .i64 x, .int .i64 y, .int .i64 z]) (by simp [results, Tryd.results121, go_sem]) rfl ⟨rfl, below2 _ _ _⟩

set_option maxRecDepth 100000 in
theorem times_any (a1 a2 a3 b1 b2 b3 : Int) (w : World) :
    Calls Tryd.prog 127 #[.agg #[.int .i64 a1, .int .i64 a2, .int .i64 a3], .agg #[.int .i64 b1, .int .i64 b2, .int .i64 b3]] w fun e w' => e = .returned (.int .i64 (dotW a1 a2 a3 b1 b2 b3)) ∧ Below w.heap.size w w' := by
  go_enter Tryd.func127, Tryd.ntmps127
  go_wp2
  go_ret
  exact ⟨rfl, below2 _ _ _⟩
set_option maxRecDepth 100000 in
theorem l02Dot_any (a1 a2 a3 b1 b2 b3 : Int) (w : World) :
    Calls Tryd.prog 99 #[.agg #[.int .i64 a1, .int .i64 a2, .int .i64 a3], .agg #[.int .i64 b1, .int .i64 b2, .int .i64 b3]] w fun e w' => e = .returned (.int .i64 (dotW a1 a2 a3 b1 b2 b3)) ∧ Below w.heap.size w w' := by
  go_enter Tryd.func99, Tryd.ntmps99
  go_wp2
  go_ret
  exact ⟨rfl, below2 _ _ _⟩

set_option maxRecDepth 100000 in
theorem l02Is_any (n lo hi : Int) (w : World) :
    Calls Tryd.prog 29 #[.int .i64 n, .int .i64 lo, .int .i64 hi] w fun e w' => e = .returned (.bool (decide (lo ≤ n) && decide (n ≤ hi))) ∧ w' = w := by
  by_cases h : lo ≤ n
  · go_enter Tryd.func29, Tryd.ntmps29
    go_wp2
    go_ret
    exact ⟨by simp [h], rfl⟩
  · go_enter Tryd.func29, Tryd.ntmps29
    go_wp2
    go_ret
    exact ⟨by simp; omega, rfl⟩
end Go.Proofs.YtnffnjljjecphaaDoor

namespace Go.Proofs.YtnffnjljjecphaaDoor
open Go.RowKit Go.Sort
set_option linter.unusedVariables false

def frameB (wd ht : Int) (s : ByteArray) : Bool := decide (1 ≤ wd) && decide (wd ≤ 16) && decide (1 ≤ ht) && decide (ht ≤ 12) && decide ((s.size : Int) = wd * ht)
def goodB (ar : Int) (ed : Bool) (lo hi : Int) : Bool := decide (lo ≤ ar) && decide (ar ≤ hi) && !ed
theorem frameB_iff {wd ht : Int} {s : ByteArray} : frameB wd ht s = true ↔ (1 ≤ wd ∧ wd ≤ 16 ∧ 1 ≤ ht ∧ ht ≤ 12 ∧ (s.size : Int) = wd * ht) := by
  unfold frameB
  simp only [Bool.and_eq_true, decide_eq_true_eq, and_assoc]
theorem good_yes {ar lo hi : Int} {ed : Bool} (h1 : lo ≤ ar) (h2 : ar ≤ hi) : goodB ar ed lo hi = !ed := by unfold goodB; simp [h1, h2]
theorem good_no {ar lo hi : Int} {ed : Bool} (h : ar < lo ∨ hi < ar) : goodB ar ed lo hi = false := by
  unfold goodB
  rcases h with h | h
  · rw [show decide (lo ≤ ar) = false by simp; omega]; rfl
  · rw [show decide (ar ≤ hi) = false by simp; omega]; simp
theorem frame_no {wd ht : Int} {s : ByteArray} (h : wd < 1 ∨ 16 < wd ∨ ht < 1 ∨ 12 < ht) : frameB wd ht s = false := by
  cases e : frameB wd ht s
  · rfl
  · have := frameB_iff.1 e; omega

set_option maxRecDepth 100000 in
theorem specFrameRight_any (wd ht : Int) (s : ByteArray) (w : World) :
    Calls Tryd.prog 28 #[.agg #[.int .i64 wd, .int .i64 ht, .string s]] w fun e w' => e = .returned (.bool (frameB wd ht s)) ∧ Below w.heap.size w w' := by
  go_enter Tryd.func28, Tryd.ntmps28
  go_wp2_with fail
  refine (l02Is_any wd 1 16 _).mono ?_
  rintro e w1 ⟨rfl, rfl⟩
  by_cases h1 : 1 ≤ wd ∧ wd ≤ 16
  · have e1 : (decide (1 ≤ wd) && decide (wd ≤ 16)) = true := by simp [h1]
    rw [e1]
    go_wp2_with fail
    refine (l02Is_any ht 1 12 _).mono ?_
    rintro e w1 ⟨rfl, rfl⟩
    by_cases h2 : 1 ≤ ht ∧ ht ≤ 12
    · have e2 : (decide (1 ≤ ht) && decide (ht ≤ 12)) = true := by simp [h2]
      rw [e2]
      obtain ⟨a1, a2⟩ := h1
      obtain ⟨a3, a4⟩ := h2
      have hm : wrap64 (wd * ht) = wd * ht := by
        have h0 := Int.mul_nonneg (show 0 ≤ wd by omega) (show 0 ≤ ht by omega)
        have h1 := Int.mul_le_mul a2 a4 (by omega) (by omega)
        exact wrap_id (by omega) (by omega)
      have HF : Hid (frameB wd ht s = decide ((s.size : Int) = wd * ht)) := hide (by unfold frameB; simp [a1, a2, a3, a4])
      clear e1 e2
      go_wp2_with fail
      go_ret
      exact ⟨by rw [unhide HF]; rfl, below1 _ _⟩
    · have e2 : (decide (1 ≤ ht) && decide (ht ≤ 12)) = false := by simp; omega
      rw [e2]
      go_wp2_with fail
      go_ret
      exact ⟨by rw [frame_no (by omega)]; rfl, below1 _ _⟩
  · have e1 : (decide (1 ≤ wd) && decide (wd ≤ 16)) = false := by simp; omega
    rw [e1]
    go_wp2_with fail
    go_ret
    exact ⟨by rw [frame_no (by omega)]; rfl, below1 _ _⟩

set_option maxRecDepth 100000 in
theorem frameRight_any (wd ht : Int) (s : ByteArray) (w : World) :
    Calls Tryd.prog 71 #[.agg #[.int .i64 wd, .int .i64 ht, .string s]] w fun e w' => e = .returned (.bool (frameB wd ht s)) ∧ Below w.heap.size w w' := by
  by_cases h1 : wd < 1
  · go_enter Tryd.func71, Tryd.ntmps71
    go_wp2_with fail
    go_ret
    exact ⟨by rw [frame_no (by omega)]; rfl, below1 _ _⟩
  by_cases h2 : 16 < wd
  · go_enter Tryd.func71, Tryd.ntmps71
    go_wp2_with fail
    go_ret
    exact ⟨by rw [frame_no (by omega)]; rfl, below1 _ _⟩
  by_cases h3 : ht < 1
  · go_enter Tryd.func71, Tryd.ntmps71
    go_wp2_with fail
    go_ret
    exact ⟨by rw [frame_no (by omega)]; rfl, below1 _ _⟩
  by_cases h4 : 12 < ht
  · go_enter Tryd.func71, Tryd.ntmps71
    go_wp2_with fail
    go_ret
    exact ⟨by rw [frame_no (by omega)]; rfl, below1 _ _⟩
  have hm : wrap64 (wd * ht) = wd * ht := by
    have h0 := Int.mul_nonneg (show 0 ≤ wd by omega) (show 0 ≤ ht by omega)
    have h1 := Int.mul_le_mul (show wd ≤ 16 by omega) (show ht ≤ 12 by omega) (by omega) (by omega)
    exact wrap_id (by omega) (by omega)
  have HF : Hid (frameB wd ht s = decide ((s.size : Int) = wd * ht)) := hide (by
    unfold frameB
    rw [show decide (1 ≤ wd) = true by simp; omega, show decide (wd ≤ 16) = true by simp; omega, show decide (1 ≤ ht) = true by simp; omega, show decide (ht ≤ 12) = true by simp; omega]
    rfl)
  go_enter Tryd.func71, Tryd.ntmps71
  go_wp2_with fail
  go_ret
  exact ⟨by rw [unhide HF]; rfl, below1 _ _⟩

set_option maxRecDepth 100000 in
theorem toFrame_any (wd ht : Int) (s : ByteArray) (w : World) :
    Calls Tryd.prog 32 #[.agg #[.int .i64 wd, .int .i64 ht, .string s]] w fun e w' => e = .returned (.agg #[.int .i64 wd, .int .i64 ht, .string s]) ∧ Below w.heap.size w w' := by
  go_enter Tryd.func32, Tryd.ntmps32
  go_wp2
  exact bodyPost_ret (v := .agg #[.int .i64 wd, .int .i64 ht, .string s]) (by simp [results, Tryd.results32, go_sem]) rfl ⟨rfl, below3 _ _ _ _⟩
/-- what szFrame leaves of left -/
def szI (left : Int) (s : ByteArray) : Int := if left - (s.size : Int) < 0 then -1 else left - (s.size : Int)
set_option maxRecDepth 100000 in
theorem szFrame_any (wd ht : Int) (s : ByteArray) (left : Int) (w : World) (hs : s.size ≤ maxLen) (h0 : 0 ≤ left) (h1 : left ≤ 1048576) :
    Calls Tryd.prog 25 #[.agg #[.int .i64 wd, .int .i64 ht, .string s], .int .i64 left] w fun e w' => e = .returned (.int .i64 (szI left s)) ∧ Below w.heap.size w w' := by
  unfold maxLen at hs
  by_cases h2 : left - (s.size : Int) < 0
  · go_enter Tryd.func25, Tryd.ntmps25
    go_wp2_with fail
    go_ret
    exact ⟨by unfold szI; rw [if_pos h2]; rfl, below1 _ _⟩
  · go_enter Tryd.func25, Tryd.ntmps25
    go_wp2_with fail
    go_ret
    exact ⟨by unfold szI; rw [if_neg (by omega)]; rfl, below1 _ _⟩
end Go.Proofs.YtnffnjljjecphaaDoor

namespace Go.Proofs.YtnffnjljjecphaaDoor
set_option linter.unusedVariables false

structure Cm where
  kind : Int
  A : Int
  B : Int
  C : Int
  D : Int
  S : List D3
  wd : Int
  ht : Int
  px : ByteArray
  lv : Int
  fo : Int
def fr0 (wd ht : Int) (px : ByteArray) : Bool := decide (wd = 0) && decide (ht = 0) && decide (px.toList = [])
def bareB (c : Cm) : Bool := fr0 c.wd c.ht c.px && decide (c.lv = 0) && decide (c.fo = 0)
def noS (S : List D3) : Bool := decide (S.length = 0)
def tz (c : Cm) : Bool := eqT c.A c.B c.C c.D 0 0 0 0
def cmdB (c : Cm) : Bool :=
  if c.kind = 1 then tz c && noS c.S && bareB c
  else if c.kind = 2 then rightT c.A c.B c.C c.D && noS c.S && bareB c
  else if c.kind = 3 then tz c && spotsB c.S && bareB c
  else if c.kind = 4 then tz c && noS c.S && frameB c.wd c.ht c.px && spanB 0 255 c.lv && spanB 1 40 c.fo
  else false
theorem cmd_1 {c : Cm} (h : c.kind = 1) : cmdB c = (tz c && noS c.S && bareB c) := by unfold cmdB; rw [if_pos h]
theorem cmd_2 {c : Cm} (h : c.kind = 2) : cmdB c = (rightT c.A c.B c.C c.D && noS c.S && bareB c) := by unfold cmdB; rw [if_neg (by omega), if_pos h]
theorem cmd_3 {c : Cm} (h : c.kind = 3) : cmdB c = (tz c && spotsB c.S && bareB c) := by unfold cmdB; rw [if_neg (by omega), if_neg (by omega), if_pos h]
theorem cmd_4 {c : Cm} (h : c.kind = 4) : cmdB c = (tz c && noS c.S && frameB c.wd c.ht c.px && spanB 0 255 c.lv && spanB 1 40 c.fo) := by unfold cmdB; rw [if_neg (by omega), if_neg (by omega), if_neg (by omega), if_pos h]
theorem cmd_n {c : Cm} (h1 : c.kind ≠ 1) (h2 : c.kind ≠ 2) (h3 : c.kind ≠ 3) (h4 : c.kind ≠ 4) : cmdB c = false := by unfold cmdB; rw [if_neg h1, if_neg h2, if_neg h3, if_neg h4]
end Go.Proofs.YtnffnjljjecphaaDoor

namespace Go.Proofs.YtnffnjljjecphaaDoor
open Go.RowKit Go.Sort
set_option linter.unusedVariables false

/-- the cells vs lie at block b, from its first cell on -/
def SAt (w : World) (b : Nat) (vs : List Value) : Prop := ∀ i v, vs[i]? = some v → w.cell? ⟨b, i, none⟩ = some v
theorem SAt.lt {w : World} {b : Nat} {v : Value} {vs : List Value} (h : SAt w b (v :: vs)) : b < w.heap.size := World.block_lt_of_cell? w _ (h 0 v rfl)
theorem SAt.kept {w w' : World} {b : Nat} {v : Value} {vs : List Value} (h : SAt w b (v :: vs)) (hB : Below w.heap.size w w') : SAt w' b (v :: vs) := fun i u hu => by
  rw [hB.cell (p := ⟨b, i, none⟩) h.lt]; exact h i u hu
theorem sAt_new (w : World) (vs : List Value) (t : TypeId) : SAt (w.alloc (.cells vs.toArray t)) w.heap.size vs := fun i u hu => by
  simp [hu]
theorem SAt.c3 {w : World} {b : Nat} {x y z : Value} (h : SAt w b [x, y, z]) : w.cell? ⟨b, 0, none⟩ = some x ∧ w.cell? ⟨b, 1, none⟩ = some y ∧ w.cell? ⟨b, 2, none⟩ = some z := ⟨h 0 x rfl, h 1 y rfl, h 2 z rfl⟩
theorem SAt.c5 {w : World} {b : Nat} {x y z u v : Value} (h : SAt w b [x, y, z, u, v]) : w.cell? ⟨b, 0, none⟩ = some x ∧ w.cell? ⟨b, 1, none⟩ = some y ∧ w.cell? ⟨b, 2, none⟩ = some z ∧ w.cell? ⟨b, 3, none⟩ = some u ∧ w.cell? ⟨b, 4, none⟩ = some v := ⟨h 0 x rfl, h 1 y rfl, h 2 z rfl, h 3 u rfl, h 4 v rfl⟩
theorem neq_bool_self (b : Bool) (w : World) : (binOp .neq 4 (.bool b) (.bool b)).run Tryd.prog w = .ok (.bool false) w := by cases b <;> simp [go_sem]

end Go.Proofs.YtnffnjljjecphaaDoor

namespace Go.Proofs.YtnffnjljjecphaaDoor
open Go.RowKit

set_option maxRecDepth 100000 in
theorem infoByte : ∃ i : TypeInfo, Tryd.prog.info? 5 = some i ∧ i.zero = some (.int .u8 0) ∧ i.size = 1 ∧ i.bytes = 1 := by
  refine ⟨_, rfl, ?_, ?_, ?_⟩ <;> kernel_rfl

theorem mkBytes (n : Nat) (h : n ≤ 281474976710656) : ∃ M : Array Value, M.size = n ∧ ∀ W : World, (Instr.makeSlice 116 (.int .i64 (n : Int)) (.int .i64 (n : Int))).run Tryd.prog W = .ok (.slice (some ⟨W.heap.size, 0, none⟩) n n) (W.alloc (.cells M 5)) := by
  obtain ⟨i0, hi, hz0, hz1, hz2⟩ := infoByte
  refine ⟨madeCells (Value.int .u8 0).cells (((n : Nat) : Int).toNat * i0.size), by rw [size_madeCells, hz1]; simp, fun W => ?_⟩
  have h := run_make (P := Tryd.prog) W 116 5 i0 (.int .u8 0) Tryd.underlying116 hi hz0 .i64 .i64 (n : Int) (n : Int) (by omega) (by omega) (by rw [hz2]; omega) (by omega)
  simpa using h

theorem setRow_alloc (w : World) (M Y : Array Value) (T : TypeId) : (w.alloc (.cells M T)).setRow w.heap.size Y = w.alloc (.cells Y T) := by
  unfold World.setRow World.alloc
  congr 1
  apply Array.ext
  · simp
  · intro i h1 h2
    have h3 : i < w.heap.size + 1 := by simpa using h2
    simp only [Array.getElem_modify, Array.getElem_push]
    by_cases e : i = w.heap.size
    · subst e; simp
    · have h4 : i < w.heap.size := by omega
      simp [Ne.symm e, h4]

theorem convBytes (w : World) (T : TypeId) (Y : Array Value) (s : ByteArray) (hY : Y.toList = Lib.byteCells s.data.toList) (cap : Nat) :
    (convert 116 9 (.slice (some ⟨w.heap.size, 0, none⟩) s.size cap)).run Tryd.prog (w.alloc (.cells Y T)) = .ok (.string s) (w.alloc (.cells Y T)) := by
  refine Lib.run_convert_whole (P := Tryd.prog) _ 116 5 9 Tryd.underlying116 Tryd.underlying5 Tryd.underlying9 w.heap.size 0 s ?_ cap
  intro i hi
  have hl : Y[i]? = some (.int .u8 (s[i].toNat : Int)) := by
    rw [← Array.getElem?_toList, hY, Lib.byteCells, List.getElem?_map]
    have : s.data.toList[i]? = some s[i] := by rw [Array.getElem?_toList]; exact Array.getElem?_eq_getElem hi
    rw [this]; rfl
  simp [hl]

theorem append_empty (a : ByteArray) : a ++ ByteArray.empty = a := by
  apply ByteArray.ext
  simp
end Go.Proofs.YtnffnjljjecphaaDoor
