/- Several texts in one: TunM. -/
import Derived.Test.YtoakkmjcbnfljaaGreatDoorQFnIdentOwn38
namespace Go.Proofs.YtoakkmjcbnfljaaGreatDoor
set_option linter.unusedVariables false
set_option linter.unusedSimpArgs false
set_option maxRecDepth 100000
set_option maxHeartbeats 8000000
section
open Go.RowKit
theorem co {k x : Int} (hk : 0 < k) (h : k * x = 0) : x = 0 := by
 rcases Int.mul_eq_zero.1 h with e | e
 ·omega
 ·exact e
theorem sJ {p1 p2 p3 q1 q2 q3 M N d : Int} (hM : 0 < M) (hN : 0 < N) (hd : 0 < d) (hc : p2 * q3 - p3 * q2 = 0 ∧ p3 * q1 - p1 * q3 = 0 ∧ p1 * q2 - p2 * q1 = 0) (hpos : 0 < dot p1 p2 p3 q1 q2 q3) (hp : dot p1 p2 p3 p1 p2 p3 = M * M * d) (hq : dot q1 q2 q3 q1 q2 q3 = N * N * d) : N * p1 = M * q1 ∧ N * p2 = M * q2 ∧ N * p3 = M * q3 := by
 obtain ⟨h1, h2, h3⟩ := hc
 have lag : dot p1 p2 p3 p1 p2 p3 * dot q1 q2 q3 q1 q2 q3 = dot p1 p2 p3 q1 q2 q3 * dot p1 p2 p3 q1 q2 q3 := by
  have e : dot p1 p2 p3 p1 p2 p3 * dot q1 q2 q3 q1 q2 q3 - dot p1 p2 p3 q1 q2 q3 * dot p1 p2 p3 q1 q2 q3 = (p2 * q3 - p3 * q2) * (p2 * q3 - p3 * q2) + (p3 * q1 - p1 * q3) * (p3 * q1 - p1 * q3) + (p1 * q2 - p2 * q1) * (p1 * q2 - p2 * q1) := by unfold dot; grind
  rw [h1, h2, h3] at e
  omega
 have hMN : 0 < M * N * d := Int.mul_pos (Int.mul_pos hM hN) hd
 have e1 : dot p1 p2 p3 q1 q2 q3 = M * N * d := by
  rw [hp, hq] at lag
  have e2 : (dot p1 p2 p3 q1 q2 q3 + M * N * d) * (dot p1 p2 p3 q1 q2 q3 - M * N * d) = 0 := by
   generalize dot p1 p2 p3 q1 q2 q3 = z at *
   grind
  have := co (by omega) e2
  omega
 have e3 : (N * p1 - M * q1) * (N * p1 - M * q1) + (N * p2 - M * q2) * (N * p2 - M * q2) + (N * p3 - M * q3) * (N * p3 - M * q3) = 0 := by
  have e4 : (N * p1 - M * q1) * (N * p1 - M * q1) + (N * p2 - M * q2) * (N * p2 - M * q2) + (N * p3 - M * q3) * (N * p3 - M * q3) = N * N * dot p1 p2 p3 p1 p2 p3 + M * M * dot q1 q2 q3 q1 q2 q3 - 2 * (M * N) * dot p1 p2 p3 q1 q2 q3 := by unfold dot; grind
  rw [e4, hp, hq, e1]
  grind
 obtain ⟨a, b, c⟩ := lE e3
 omega
theorem uv (s1 s2 s3 s4 t1 t2 t3 t4 : Int) : nT (coA s1 s2 s3 s4 t1 t2 t3 t4) (coB s1 s2 s3 s4 t1 t2 t3 t4) (coC s1 s2 s3 s4 t1 t2 t3 t4) (coD s1 s2 s3 s4 t1 t2 t3 t4) = nT s1 s2 s3 s4 * nT t1 t2 t3 t4 := by
 unfold nT coA coB coC coD
 grind
theorem tq (a b c d : Int) : nT a (-b) (-c) (-d) = nT a b c d := by unfold nT; grind
theorem axis {p0 p1 p2 p3 x y z : Int} (hp : 0 < nT p0 p1 p2 p3) (hx : apX p0 p1 p2 p3 x y z = nT p0 p1 p2 p3 * x) (hy : apY p0 p1 p2 p3 x y z = nT p0 p1 p2 p3 * y) (hz : apZ p0 p1 p2 p3 x y z = nT p0 p1 p2 p3 * z) : p2 * z - p3 * y = 0 ∧ p3 * x - p1 * z = 0 ∧ p1 * y - p2 * x = 0 := by
 obtain ⟨m1, e1⟩ : ∃ m, m = p2 * z - p3 * y := ⟨_, rfl⟩
 obtain ⟨m2, e2⟩ : ∃ m, m = p3 * x - p1 * z := ⟨_, rfl⟩
 obtain ⟨m3, e3⟩ : ∃ m, m = p1 * y - p2 * x := ⟨_, rfl⟩
 have a1 : p2 * m3 - p3 * m2 + p0 * m1 = 0 := by unfold apX nT at hx; subst e1 e2 e3; grind
 have a2 : p3 * m1 - p1 * m3 + p0 * m2 = 0 := by unfold apY nT at hy; subst e1 e2 e3; grind
 have a3 : p1 * m2 - p2 * m1 + p0 * m3 = 0 := by unfold apZ nT at hz; subst e1 e2 e3; grind
 have v : p1 * m1 + p2 * m2 + p3 * m3 = 0 := by subst e1 e2 e3; grind
 have k : p0 * (m1 * m1 + m2 * m2 + m3 * m3) = 0 := by grind
 have s : nT p0 p1 p2 p3 * (m1 * m1 + m2 * m2 + m3 * m3) = 0 := by
  have l : (p2 * m3 - p3 * m2) * (p2 * m3 - p3 * m2) + (p3 * m1 - p1 * m3) * (p3 * m1 - p1 * m3) + (p1 * m2 - p2 * m1) * (p1 * m2 - p2 * m1) = (p1 * p1 + p2 * p2 + p3 * p3) * (m1 * m1 + m2 * m2 + m3 * m3) - (p1 * m1 + p2 * m2 + p3 * m3) * (p1 * m1 + p2 * m2 + p3 * m3) := by clear hx hy hz e1 e2 e3 a1 a2 a3 v k; grind
  have b1 : p2 * m3 - p3 * m2 = -(p0 * m1) := by omega
  have b2 : p3 * m1 - p1 * m3 = -(p0 * m2) := by omega
  have b3 : p1 * m2 - p2 * m1 = -(p0 * m3) := by omega
  rw [b1, b2, b3, v] at l
  have l2 : p0 * (p0 * (m1 * m1 + m2 * m2 + m3 * m3)) = (p1 * p1 + p2 * p2 + p3 * p3) * (m1 * m1 + m2 * m2 + m3 * m3) := by
   clear hx hy hz e1 e2 e3 a1 a2 a3 v b1 b2 b3 k
   grind
  rw [k, Int.mul_zero] at l2
  have l3 : nT p0 p1 p2 p3 * (m1 * m1 + m2 * m2 + m3 * m3) = p0 * (p0 * (m1 * m1 + m2 * m2 + m3 * m3)) + (p1 * p1 + p2 * p2 + p3 * p3) * (m1 * m1 + m2 * m2 + m3 * m3) := by
   clear hx hy hz e1 e2 e3 a1 a2 a3 v b1 b2 b3 k l l2
   unfold nT
   grind
  rw [l3, k, ← l2]
  simp
 have := co hp s
 obtain ⟨r1, r2, r3⟩ := lE this
 omega
theorem tt {p1 p2 p3 x y z u v t : Int} (h1 : p2 * z - p3 * y = 0 ∧ p3 * x - p1 * z = 0 ∧ p1 * y - p2 * x = 0) (h2 : p2 * t - p3 * v = 0 ∧ p3 * u - p1 * t = 0 ∧ p1 * v - p2 * u = 0) (hn : ¬ (y * t - z * v = 0 ∧ z * u - x * t = 0 ∧ x * v - y * u = 0)) : p1 = 0 ∧ p2 = 0 ∧ p3 = 0 := by
 obtain ⟨a1, a2, a3⟩ := h1
 obtain ⟨b1, b2, b3⟩ := h2
 by_cases hp : p1 = 0 ∧ p2 = 0 ∧ p3 = 0
 ·exact hp
 ·exfalso
  have hV := eV hp
  obtain ⟨V, hVe⟩ : ∃ V, V = dot p1 p2 p3 p1 p2 p3 := ⟨_, rfl⟩
  obtain ⟨P, hP⟩ : ∃ V, V = dot p1 p2 p3 x y z := ⟨_, rfl⟩
  obtain ⟨Q, hQ⟩ : ∃ V, V = dot p1 p2 p3 u v t := ⟨_, rfl⟩
  rw [← hVe] at hV
  have x1 : V * x = P * p1 := by subst hVe hP; unfold dot; grind
  have x2 : V * y = P * p2 := by subst hVe hP; unfold dot; grind
  have x3 : V * z = P * p3 := by subst hVe hP; unfold dot; grind
  have y1 : V * u = Q * p1 := by subst hVe hQ; unfold dot; grind
  have y2 : V * v = Q * p2 := by subst hVe hQ; unfold dot; grind
  have y3 : V * t = Q * p3 := by subst hVe hQ; unfold dot; grind
  have hVV := Int.mul_pos hV hV
  clear hVe hP hQ a1 a2 a3 b1 b2 b3 hp
  exact hn ⟨co hVV (by grind), co hVV (by grind), co hVV (by grind)⟩
theorem sf (k a b c d : Int) : gT (k * a) (k * b) (k * c) (k * d) = (k.natAbs : Int) * gT a b c d := by
 unfold gT
 rw [Int.gcd_mul_left, Int.gcd_mul_left, Int.natCast_mul, Int.natCast_mul, Int.gcd_mul_left, Int.natCast_mul]
 simp
theorem rX {k : Int} (hk : 0 < k) (a b c d : Int) : fT (k * a) (k * b) (k * c) (k * d) = k * fT a b c d := by
 have z : ∀ x : Int, k * x = 0 ↔ x = 0 := fun x => ⟨fun h => co hk h, fun h => by rw [h, Int.mul_zero]⟩
 unfold fT
 simp only [ne_eq, z]
 split
 ·rfl
 ·split
  ·rfl
  ·split <;> rfl
theorem rx {a b c d e f g i m n : Int} (h1 : aC a b c d = true) (h2 : aC e f g i = true) (hm : 0 < m) (ha : m * a = n * e) (hb : m * b = n * f) (hc : m * c = n * g) (hd : m * d = n * i) : a = e ∧ b = f ∧ c = g ∧ d = i := by
 obtain ⟨_, f1, g1⟩ := bP.1 h1
 obtain ⟨_, f2, g2⟩ := bP.1 h2
 have hg : (m.natAbs : Int) = (n.natAbs : Int) := by
  have e1 := sf m a b c d
  rw [ha, hb, hc, hd, sf, g1, g2] at e1
  omega
 rcases (show n = m ∨ n = -m by omega) with rfl | rfl
 ·have z : ∀ {x y : Int}, n * x = n * y → x = y := fun {x y} h => by
   have := co (k := n) (x := x - y) hm (by rw [Int.mul_sub]; omega)
   omega
  exact ⟨z ha, z hb, z hc, z hd⟩
 ·exfalso
  have e1 := rX hm a b c d
  rw [ha, hb, hc, hd] at e1
  have e2 : fT (-m * e) (-m * f) (-m * g) (-m * i) = -(m * fT e f g i) := by
   rw [← rX hm, ← tZ]
   simp [Int.neg_mul]
  rw [e2] at e1
  have p1 := Int.mul_pos hm f1
  have p2 := Int.mul_pos hm f2
  omega
theorem ta (a b c d e f g i : Int) : nT e f g i * a = coA e (-f) (-g) (-i) a b c d * e - coB e (-f) (-g) (-i) a b c d * f - coC e (-f) (-g) (-i) a b c d * g - coD e (-f) (-g) (-i) a b c d * i ∧ nT e f g i * b = coA e (-f) (-g) (-i) a b c d * f + coB e (-f) (-g) (-i) a b c d * e + coD e (-f) (-g) (-i) a b c d * g - coC e (-f) (-g) (-i) a b c d * i ∧ nT e f g i * c = coA e (-f) (-g) (-i) a b c d * g + coC e (-f) (-g) (-i) a b c d * e - coD e (-f) (-g) (-i) a b c d * f + coB e (-f) (-g) (-i) a b c d * i ∧ nT e f g i * d = coA e (-f) (-g) (-i) a b c d * i + coD e (-f) (-g) (-i) a b c d * e + coC e (-f) (-g) (-i) a b c d * f - coB e (-f) (-g) (-i) a b c d * g := by
 unfold nT coA coB coC coD
 refine ⟨?_, ?_, ?_, ?_⟩ <;> grind
theorem jT {a b c d e f g i x y z : Int} (h1 : 0 < nT a b c d) (h2 : 0 < nT e f g i) (hx : nT e f g i * apX a b c d x y z = nT a b c d * apX e f g i x y z) (hy : nT e f g i * apY a b c d x y z = nT a b c d * apY e f g i x y z) (hz : nT e f g i * apZ a b c d x y z = nT a b c d * apZ e f g i x y z) :
  coC e (-f) (-g) (-i) a b c d * z - coD e (-f) (-g) (-i) a b c d * y = 0 ∧ coD e (-f) (-g) (-i) a b c d * x - coB e (-f) (-g) (-i) a b c d * z = 0 ∧ coB e (-f) (-g) (-i) a b c d * y - coC e (-f) (-g) (-i) a b c d * x = 0 := by
 have hn := uv e (-f) (-g) (-i) a b c d
 rw [tq] at hn
 obtain ⟨c1, c2, c3⟩ := ut e (-f) (-g) (-i) a b c d x y z
 obtain ⟨k1, k2, k3⟩ := sX e f g i x y z
 obtain ⟨l1, l2, l3⟩ := rP (nT e f g i) e (-f) (-g) (-i) (apX a b c d x y z) (apY a b c d x y z) (apZ a b c d x y z)
 obtain ⟨m1, m2, m3⟩ := rP (nT a b c d) e (-f) (-g) (-i) (apX e f g i x y z) (apY e f g i x y z) (apZ e f g i x y z)
 rw [hx, hy, hz] at l1 l2 l3
 rw [m1, k1, ← c1] at l1
 rw [m2, k2, ← c2] at l2
 rw [m3, k3, ← c3] at l3
 have key : ∀ {A X : Int}, nT a b c d * (nT e f g i * nT e f g i * X) = nT e f g i * A → A = nT e f g i * nT a b c d * X := fun {A X} h => by
  have := co (k := nT e f g i) (x := A - nT e f g i * nT a b c d * X) h2 (by grind)
  omega
 refine axis (by rw [hn]; exact Int.mul_pos h2 h1) ?_ ?_ ?_
 ·rw [hn]; exact key l1
 ·rw [hn]; exact key l2
 ·rw [hn]; exact key l3
theorem sS {a b c d e f g i x y z u v t : Int} {p q : D3} (h1 : aC a b c d = true) (h2 : aC e f g i = true) (hn : ¬ (y * t - z * v = 0 ∧ z * u - x * t = 0 ∧ x * v - y * u = 0))
  (s1 : aS p (apD a b c d (x, y, z)) = true) (s2 : aS p (apD e f g i (x, y, z)) = true) (s3 : aS q (apD a b c d (u, v, t)) = true) (s4 : aS q (apD e f g i (u, v, t)) = true) : a = e ∧ b = f ∧ c = g ∧ d = i := by
 have n1 := iw (dK h1)
 have n2 := iw (dK h2)
 have one : ∀ {x y z : Int} {p : D3}, ¬ (x = 0 ∧ y = 0 ∧ z = 0) → aS p (apD a b c d (x, y, z)) = true → aS p (apD e f g i (x, y, z)) = true → nT e f g i * apX a b c d x y z = nT a b c d * apX e f g i x y z ∧ nT e f g i * apY a b c d x y z = nT a b c d * apY e f g i x y z ∧ nT e f g i * apZ a b c d x y z = nT a b c d * apZ e f g i x y z := by
  intro x y z p hz s1 s2
  unfold aS apD at s1 s2
  obtain ⟨rv, _, ⟨b1, b2, b3⟩, b4⟩ := dZ s1
  obtain ⟨_, _, ⟨c1, c2, c3⟩, c4⟩ := dZ s2
  obtain ⟨cr, dp⟩ := gx (aI.1 rv).2 b1 b2 b3 c1 c2 c3 b4 c4
  exact sJ n1 n2 (eV hz) cr dp (eK ..) (eK ..)
 have z1 : ¬ (x = 0 ∧ y = 0 ∧ z = 0) := fun h => hn (by obtain ⟨rfl, rfl, rfl⟩ := h; simp)
 have z2 : ¬ (u = 0 ∧ v = 0 ∧ t = 0) := fun h => hn (by obtain ⟨rfl, rfl, rfl⟩ := h; simp)
 obtain ⟨o1, o2, o3⟩ := one z1 s1 s2
 obtain ⟨o4, o5, o6⟩ := one z2 s3 s4
 obtain ⟨q1, q2, q3⟩ := tt (jT n1 n2 o1 o2 o3) (jT n1 n2 o4 o5 o6) hn
 obtain ⟨w1, w2, w3, w4⟩ := ta a b c d e f g i
 rw [q1, q2, q3] at w1 w2 w3 w4
 exact rx h1 h2 n2 (n := coA e (-f) (-g) (-i) a b c d) (by omega) (by omega) (by omega) (by omega)
end
end Go.Proofs.YtoakkmjcbnfljaaGreatDoor
