/- Several texts in one: VecMath, SkyMath, TurnMath. -/
import Derived.WalkKit
namespace Go.Proofs.YtnffnjljjecphaaDoor
open Go.RowKit
set_option linter.unusedVariables false

def inB (m x : Int) : Bool := decide (-m ≤ x ∧ x ≤ m)
def withinB (m x y z : Int) : Bool := inB m x && inB m y && inB m z
def zeroB (x y z : Int) : Bool := decide (x = 0 ∧ y = 0 ∧ z = 0)
def rightB (x y z : Int) : Bool := withinB 1000000 x y z && !zeroB x y z

theorem inB_iff {m x : Int} : inB m x = true ↔ -m ≤ x ∧ x ≤ m := by simp [inB]
theorem withinB_iff {m x y z : Int} : withinB m x y z = true ↔ (-m ≤ x ∧ x ≤ m) ∧ (-m ≤ y ∧ y ≤ m) ∧ (-m ≤ z ∧ z ≤ m) := by
  simp [withinB, inB_iff, and_assoc]
theorem rightB_iff {x y z : Int} : rightB x y z = true ↔ ((-1000000 ≤ x ∧ x ≤ 1000000) ∧ (-1000000 ≤ y ∧ y ≤ 1000000) ∧ (-1000000 ≤ z ∧ z ≤ 1000000)) ∧ ¬ (x = 0 ∧ y = 0 ∧ z = 0) := by
  unfold rightB
  rw [Bool.and_eq_true, withinB_iff]
  simp only [zeroB, Bool.not_eq_true', decide_eq_false_iff_not]

theorem wrap_id {n : Int} (h0 : -9223372036854775808 ≤ n) (h1 : n ≤ 9223372036854775807) : wrap64 n = n := by
  exact Go.IntWalk.wrap64_in n ⟨h0, h1⟩

theorem mulB {a b A B : Int} (h1 : -A ≤ a ∧ a ≤ A) (h3 : -B ≤ b ∧ b ≤ B) : -(A * B) ≤ a * b ∧ a * b ≤ A * B := by
  have h : (a * b).natAbs ≤ A.natAbs * B.natAbs := by
    rw [Int.natAbs_mul]; exact Nat.mul_le_mul (by omega) (by omega)
  have : ((A.natAbs * B.natAbs : Nat) : Int) = A * B := by
    rw [Int.natCast_mul, Int.natAbs_of_nonneg (by omega), Int.natAbs_of_nonneg (by omega)]
  omega

/- products -/
def dotW (a1 a2 a3 b1 b2 b3 : Int) : Int := wrap64 (wrap64 (wrap64 (a1 * b1) + wrap64 (a2 * b2)) + wrap64 (a3 * b3))
def dot (a1 a2 a3 b1 b2 b3 : Int) : Int := a1 * b1 + a2 * b2 + a3 * b3
def crW (a2 a3 b2 b3 : Int) : Int := wrap64 (wrap64 (a2 * b3) - wrap64 (a3 * b2))

theorem dotW_comm (a1 a2 a3 b1 b2 b3 : Int) : dotW a1 a2 a3 b1 b2 b3 = dotW b1 b2 b3 a1 a2 a3 := by
  unfold dotW; rw [Int.mul_comm a1, Int.mul_comm a2, Int.mul_comm a3]
theorem dot_comm (a1 a2 a3 b1 b2 b3 : Int) : dot a1 a2 a3 b1 b2 b3 = dot b1 b2 b3 a1 a2 a3 := by
  unfold dot; rw [Int.mul_comm a1, Int.mul_comm a2, Int.mul_comm a3]
theorem dot_bound {a1 a2 a3 b1 b2 b3 A B : Int} (ha : withinB A a1 a2 a3 = true) (hb : withinB B b1 b2 b3 = true) : -(3 * (A * B)) ≤ dot a1 a2 a3 b1 b2 b3 ∧ dot a1 a2 a3 b1 b2 b3 ≤ 3 * (A * B) := by
  rw [withinB_iff] at ha hb
  have h1 := mulB ha.1 hb.1
  have h2 := mulB ha.2.1 hb.2.1
  have h3 := mulB ha.2.2 hb.2.2
  unfold dot
  omega
theorem dotW_eq {a1 a2 a3 b1 b2 b3 A B : Int} (ha : withinB A a1 a2 a3 = true) (hb : withinB B b1 b2 b3 = true) (h : 3 * (A * B) ≤ 9223372036854775807) : dotW a1 a2 a3 b1 b2 b3 = dot a1 a2 a3 b1 b2 b3 := by
  rw [withinB_iff] at ha hb
  have h1 := mulB ha.1 hb.1
  have h2 := mulB ha.2.1 hb.2.1
  have h3 := mulB ha.2.2 hb.2.2
  unfold dotW dot
  rw [wrap_id (n := a1 * b1) (by omega) (by omega), wrap_id (n := a2 * b2) (by omega) (by omega), wrap_id (n := a3 * b3) (by omega) (by omega), wrap_id (n := a1 * b1 + a2 * b2) (by omega) (by omega), wrap_id (by omega) (by omega)]
theorem crW_eq {a2 a3 b2 b3 A B : Int} (h2 : -A ≤ a2 ∧ a2 ≤ A) (h3 : -A ≤ a3 ∧ a3 ≤ A) (k2 : -B ≤ b2 ∧ b2 ≤ B) (k3 : -B ≤ b3 ∧ b3 ≤ B) (h : 2 * (A * B) ≤ 9223372036854775807) :
    crW a2 a3 b2 b3 = a2 * b3 - a3 * b2 ∧ -(2 * (A * B)) ≤ a2 * b3 - a3 * b2 ∧ a2 * b3 - a3 * b2 ≤ 2 * (A * B) := by
  have h1 := mulB h2 k3
  have h2 := mulB h3 k2
  unfold crW
  rw [wrap_id (n := a2 * b3) (by omega) (by omega), wrap_id (n := a3 * b2) (by omega) (by omega), wrap_id (by omega) (by omega)]
  omega
theorem crW_zero (k a b : Int) : crW a b (k * a) (k * b) = 0 := by
  unfold crW
  rw [show a * (k * b) = b * (k * a) by grind, Int.sub_self]
  exact wrap_id (by omega) (by omega)

/- what the calls answer -/
def dotI (a1 a2 a3 b1 b2 b3 : Int) : Int := if rightB a1 a2 a3 && rightB b1 b2 b3 then dotW a1 a2 a3 b1 b2 b3 else 0
def crI (r : Bool) (a2 a3 b2 b3 : Int) : Int := if r then crW a2 a3 b2 b3 else 0
def detI (a1 a2 a3 b1 b2 b3 c1 c2 c3 : Int) : Int :=
  if rightB a1 a2 a3 && rightB b1 b2 b3 && rightB c1 c2 c3 then dotW (crW a2 a3 b2 b3) (crW a3 a1 b3 b1) (crW a1 a2 b1 b2) c1 c2 c3 else 0
def gI (x y z : Int) : Int := ((Int.gcd (Int.gcd x y : Int) z : Nat) : Int)
def prI (r : Bool) (g x : Int) : Int := if r then wrap64 (x.tdiv g) else 0
def sameB (a1 a2 a3 b1 b2 b3 : Int) : Bool :=
  rightB a1 a2 a3 && rightB b1 b2 b3 && zeroB (crW a2 a3 b2 b3) (crW a3 a1 b3 b1) (crW a1 a2 b1 b2) && decide (0 < dotW a1 a2 a3 b1 b2 b3)

theorem dotI_comm (a1 a2 a3 b1 b2 b3 : Int) : dotI a1 a2 a3 b1 b2 b3 = dotI b1 b2 b3 a1 a2 a3 := by
  unfold dotI; rw [dotW_comm, Bool.and_comm]
theorem det_fits {a1 a2 a3 b1 b2 b3 c1 c2 c3 : Int} (ha : rightB a1 a2 a3 = true) (hb : rightB b1 b2 b3 = true) (hc : rightB c1 c2 c3 = true) :
    detI a1 a2 a3 b1 b2 b3 c1 c2 c3 = (a2 * b3 - a3 * b2) * c1 + (a3 * b1 - a1 * b3) * c2 + (a1 * b2 - a2 * b1) * c3 := by
  unfold detI
  rw [ha, hb, hc]
  rw [rightB_iff] at ha hb hc
  obtain ⟨⟨x1, x2, x3⟩, _⟩ := ha
  obtain ⟨⟨y1, y2, y3⟩, _⟩ := hb
  obtain ⟨⟨z1, z2, z3⟩, _⟩ := hc
  have e1 := crW_eq x2 x3 y2 y3 (by omega)
  have e2 := crW_eq x3 x1 y3 y1 (by omega)
  have e3 := crW_eq x1 x2 y1 y2 (by omega)
  rw [if_pos (by rfl), e1.1, e2.1, e3.1, dotW_eq (A := 2000000000000) (B := 1000000) (withinB_iff.2 ⟨by omega, by omega, by omega⟩) (withinB_iff.2 ⟨z1, z2, z3⟩) (by omega)]
  rfl
theorem detI_aba (a1 a2 a3 b1 b2 b3 : Int) : detI a1 a2 a3 b1 b2 b3 a1 a2 a3 = 0 := by
  by_cases h : rightB a1 a2 a3 = true ∧ rightB b1 b2 b3 = true
  · rw [det_fits h.1 h.2 h.1]; grind
  · unfold detI; rw [if_neg]; intro hh; simp at hh; exact h hh.1
theorem detI_abb (a1 a2 a3 b1 b2 b3 : Int) : detI a1 a2 a3 b1 b2 b3 b1 b2 b3 = 0 := by
  by_cases h : rightB a1 a2 a3 = true ∧ rightB b1 b2 b3 = true
  · rw [det_fits h.1 h.2 h.2]; grind
  · unfold detI; rw [if_neg]; intro hh; simp at hh; exact h hh

/- the greatest shared number -/
theorem gcd_step (a b : Int) : Int.gcd b (a.tmod b) = Int.gcd a b := by
  show Nat.gcd b.natAbs (a.tmod b).natAbs = Nat.gcd a.natAbs b.natAbs
  rw [Int.natAbs_tmod, Nat.gcd_comm b.natAbs, ← Nat.gcd_rec, Nat.gcd_comm]
theorem gcd_zero (a : Int) : ((Int.gcd a 0 : Nat) : Int) = if a < 0 then -a else a := by
  rw [Int.gcd_zero_right]
  split <;> omega
theorem tmod_lt (a b : Int) (h : b ≠ 0) : (a.tmod b).natAbs < b.natAbs := by
  rw [Int.natAbs_tmod]; exact Nat.mod_lt _ (by omega)
theorem gcd_le {a b m : Int} (ha : -m ≤ a ∧ a ≤ m) (hb : -m ≤ b ∧ b ≤ m) : 0 ≤ ((Int.gcd a b : Nat) : Int) ∧ ((Int.gcd a b : Nat) : Int) ≤ m := by
  refine ⟨by omega, ?_⟩
  by_cases h : a = 0
  · subst h; rw [Int.gcd_zero_left]; omega
  · have := Nat.le_of_dvd (by omega) (Nat.gcd_dvd_left a.natAbs b.natAbs)
    have e : Int.gcd a b = Nat.gcd a.natAbs b.natAbs := rfl
    omega
theorem gcd_three (x y z : Int) : ((Int.gcd ((Int.gcd ((Int.gcd 0 x : Nat) : Int) y : Nat) : Int) z : Nat) : Int) = gI x y z := by
  unfold gI
  have : Int.gcd ((Int.gcd 0 x : Nat) : Int) y = Int.gcd x y := by
    rw [Int.gcd_zero_left]
    show Nat.gcd (x.natAbs : Int).natAbs y.natAbs = Nat.gcd x.natAbs y.natAbs
    rw [Int.natAbs_natCast]
  rw [this]
theorem gI_pos {x y z : Int} (h : rightB x y z = true) : 0 < gI x y z := by
  rw [rightB_iff] at h
  unfold gI
  have h2 : Int.gcd ((Int.gcd x y : Nat) : Int) z ≠ 0 := by
    intro e
    rw [Int.gcd_eq_zero_iff] at e
    have e1 : Int.gcd x y = 0 := by omega
    rw [Int.gcd_eq_zero_iff] at e1
    exact h.2 ⟨e1.1, e1.2, e.2⟩
  omega
theorem gI_mul {k : Int} (hk : 0 ≤ k) (x y z : Int) : gI (k * x) (k * y) (k * z) = k * gI x y z := by
  unfold gI
  rw [Int.gcd_mul_left, Int.natCast_mul, Int.natAbs_of_nonneg hk, Int.gcd_mul_left, Int.natCast_mul, Int.natAbs_of_nonneg hk]
theorem prI_mul {k g : Int} (hk : 0 < k) (r : Bool) (x : Int) : prI r (k * g) (k * x) = prI r g x := by
  unfold prI
  rw [Int.mul_tdiv_mul_of_pos _ _ hk]

/- the same way -/
theorem sq_pos {x y z : Int} (h : ¬ (x = 0 ∧ y = 0 ∧ z = 0)) : 0 < dot x y z x y z := by
  unfold dot
  have hx : 0 ≤ x * x := by rw [← Int.natAbs_mul_self' x]; exact Int.natCast_nonneg _
  have hy : 0 ≤ y * y := by rw [← Int.natAbs_mul_self' y]; exact Int.natCast_nonneg _
  have hz : 0 ≤ z * z := by rw [← Int.natAbs_mul_self' z]; exact Int.natCast_nonneg _
  by_cases h1 : x = 0
  · by_cases h2 : y = 0
    · have h3 : z ≠ 0 := fun e => h ⟨h1, h2, e⟩
      have : z * z ≠ 0 := fun e => by rcases Int.mul_eq_zero.1 e with e | e <;> exact h3 e
      omega
    · have : y * y ≠ 0 := fun e => by rcases Int.mul_eq_zero.1 e with e | e <;> exact h2 e
      omega
  · have : x * x ≠ 0 := fun e => by rcases Int.mul_eq_zero.1 e with e | e <;> exact h1 e
    omega
theorem sameB_mul {k x y z : Int} (hk : 0 < k) (hs : rightB x y z = true) (hr : rightB (k * x) (k * y) (k * z) = true) : sameB x y z (k * x) (k * y) (k * z) = true := by
  have hp := sq_pos (rightB_iff.1 hs).2
  have hd : dot x y z (k * x) (k * y) (k * z) = k * dot x y z x y z := by unfold dot; grind
  have := Int.mul_pos hk hp
  unfold sameB
  rw [hs, hr, crW_zero, crW_zero, crW_zero, dotW_eq (A := 1000000) (B := 1000000) (withinB_iff.2 (rightB_iff.1 hs).1) (withinB_iff.2 (rightB_iff.1 hr).1) (by omega), hd]
  simp [zeroB, this]
theorem sameB_neg {k x y z : Int} (hk : 0 < k) : sameB x y z (-k * x) (-k * y) (-k * z) = false := by
  by_cases hs : rightB x y z = true
  · by_cases hr : rightB (-k * x) (-k * y) (-k * z) = true
    · have hp := sq_pos (rightB_iff.1 hs).2
      have hd : dot x y z (-k * x) (-k * y) (-k * z) = -(k * dot x y z x y z) := by unfold dot; grind
      have := Int.mul_pos hk hp
      have hn : ¬ 0 < dotW x y z (-k * x) (-k * y) (-k * z) := by
        rw [dotW_eq (A := 1000000) (B := 1000000) (withinB_iff.2 (rightB_iff.1 hs).1) (withinB_iff.2 (rightB_iff.1 hr).1) (by omega), hd]
        omega
      unfold sameB
      simp [hn]
    · unfold sameB; simp at hr; simp [hr]
  · unfold sameB; simp at hs; simp [hs]

/- the cosines -/
def sgn (n : Int) : Int := if n < 0 then -1 else if 0 < n then 1 else 0
def ordI (a b : Int) : Int := if a < b then -1 else if b < a then 1 else 0
def ssq (n : Int) : Int := if n < 0 then -n * n else n * n
def ssqW (n : Int) : Int := if n < 0 then wrap64 (wrap64 (-n) * n) else wrap64 (n * n)
def wideB (x y z : Int) : Bool := rightB x y z && withinB 1800 x y z
def smallB (x y z : Int) : Bool := rightB x y z && withinB 10 x y z
def cosI (a1 a2 a3 b1 b2 b3 c1 c2 c3 d1 d2 d3 : Int) : Int :=
  if wideB a1 a2 a3 && wideB b1 b2 b3 && smallB c1 c2 c3 && smallB d1 d2 d3 then
    ordI (ssq (dot a1 a2 a3 b1 b2 b3) * (dot c1 c2 c3 c1 c2 c3 * dot d1 d2 d3 d1 d2 d3)) (ssq (dot c1 c2 c3 d1 d2 d3) * (dot a1 a2 a3 a1 a2 a3 * dot b1 b2 b3 b1 b2 b3))
  else 0

theorem cosI_swap (a1 a2 a3 b1 b2 b3 c1 c2 c3 d1 d2 d3 : Int) : cosI b1 b2 b3 a1 a2 a3 c1 c2 c3 d1 d2 d3 = cosI a1 a2 a3 b1 b2 b3 c1 c2 c3 d1 d2 d3 := by
  unfold cosI
  rw [dot_comm b1 b2 b3 a1 a2 a3, Int.mul_comm (dot b1 b2 b3 b1 b2 b3), Bool.and_comm (wideB b1 b2 b3)]
theorem cosI_swap2 (a1 a2 a3 b1 b2 b3 c1 c2 c3 d1 d2 d3 : Int) : cosI a1 a2 a3 b1 b2 b3 d1 d2 d3 c1 c2 c3 = cosI a1 a2 a3 b1 b2 b3 c1 c2 c3 d1 d2 d3 := by
  unfold cosI
  rw [dot_comm d1 d2 d3 c1 c2 c3, Int.mul_comm (dot d1 d2 d3 d1 d2 d3), Bool.and_assoc (wideB a1 a2 a3 && wideB b1 b2 b3), Bool.and_comm (smallB d1 d2 d3), ← Bool.and_assoc]
theorem cosI_same {k x y z e1 e2 e3 : Int} (hk : 0 < k) : cosI (k * x) (k * y) (k * z) x y z e1 e2 e3 e1 e2 e3 = 0 := by
  unfold cosI
  split
  · rename_i h
    simp [wideB, smallB] at h
    have hp := sq_pos (rightB_iff.1 h.1.2.1).2
    have he := sq_pos (rightB_iff.1 h.2.1).2
    have hd : dot (k * x) (k * y) (k * z) x y z = k * dot x y z x y z := by unfold dot; grind
    have hd2 : dot (k * x) (k * y) (k * z) (k * x) (k * y) (k * z) = k * k * dot x y z x y z := by unfold dot; grind
    have hpos := Int.mul_pos hk hp
    have heq : ssq (dot (k * x) (k * y) (k * z) x y z) * (dot e1 e2 e3 e1 e2 e3 * dot e1 e2 e3 e1 e2 e3) = ssq (dot e1 e2 e3 e1 e2 e3) * (dot (k * x) (k * y) (k * z) (k * x) (k * y) (k * z) * dot x y z x y z) := by
      rw [hd, hd2]
      unfold ssq
      rw [if_neg (by omega), if_neg (by omega)]
      generalize dot x y z x y z = s
      generalize dot e1 e2 e3 e1 e2 e3 = e
      grind
    rw [heq]
    simp [ordI]
  · rfl

/- the program's own form of it -/
theorem cos_impl {a1 a2 a3 b1 b2 b3 c1 c2 c3 d1 d2 d3 : Int} (ha : withinB 1800 a1 a2 a3 = true) (hb : withinB 1800 b1 b2 b3 = true) (hc : withinB 10 c1 c2 c3 = true) (hd : withinB 10 d1 d2 d3 = true) :
    wrap64 (ssqW (dotW a1 a2 a3 b1 b2 b3) * wrap64 (dotW c1 c2 c3 c1 c2 c3 * dotW d1 d2 d3 d1 d2 d3)) = ssq (dot a1 a2 a3 b1 b2 b3) * (dot c1 c2 c3 c1 c2 c3 * dot d1 d2 d3 d1 d2 d3) ∧
    wrap64 (ssqW (dotW c1 c2 c3 d1 d2 d3) * wrap64 (dotW a1 a2 a3 a1 a2 a3 * dotW b1 b2 b3 b1 b2 b3)) = ssq (dot c1 c2 c3 d1 d2 d3) * (dot a1 a2 a3 a1 a2 a3 * dot b1 b2 b3 b1 b2 b3) := by
  rw [dotW_eq ha hb (by omega), dotW_eq hc hc (by omega), dotW_eq hd hd (by omega), dotW_eq hc hd (by omega), dotW_eq ha ha (by omega), dotW_eq hb hb (by omega)]
  have x1 := dot_bound ha hb
  have x2 := dot_bound hc hc
  have x3 := dot_bound hd hd
  have x4 := dot_bound hc hd
  have x5 := dot_bound ha ha
  have x6 := dot_bound hb hb
  generalize dot a1 a2 a3 b1 b2 b3 = p1 at *
  generalize dot c1 c2 c3 c1 c2 c3 = p2 at *
  generalize dot d1 d2 d3 d1 d2 d3 = p3 at *
  generalize dot c1 c2 c3 d1 d2 d3 = p4 at *
  generalize dot a1 a2 a3 a1 a2 a3 = p5 at *
  generalize dot b1 b2 b3 b1 b2 b3 = p6 at *
  have key : ∀ (p q r P Q : Int), (-P ≤ p ∧ p ≤ P) → (-Q ≤ q ∧ q ≤ Q) → (-Q ≤ r ∧ r ≤ Q) → P * P ≤ 9223372036854775807 → P ≤ 9223372036854775807 → Q * Q ≤ 9223372036854775807 → (P * P) * (Q * Q) ≤ 9223372036854775807 →
      wrap64 (ssqW p * wrap64 (q * r)) = ssq p * (q * r) := by
    intro p q r P Q h1 h2 h3 k1 k2 k3 k4
    have m1 := mulB h1 h1
    have m2 := mulB h2 h3
    have e : ssqW p = ssq p := by
      unfold ssqW ssq
      split
      · rw [wrap_id (n := -p) (by omega) (by omega)]
        have : -p * p = -(p * p) := by grind
        rw [wrap_id (by omega) (by omega)]
      · rw [wrap_id (by omega) (by omega)]
    have b : -(P * P) ≤ ssq p ∧ ssq p ≤ P * P := by
      unfold ssq
      have : -p * p = -(p * p) := by grind
      split <;> omega
    have m3 := mulB b m2
    rw [e, wrap_id (n := q * r) (by omega) (by omega), wrap_id (by omega) (by omega)]
  exact ⟨key p1 p2 p3 9720000 300 (by omega) (by omega) (by omega) (by omega) (by omega) (by omega) (by omega), key p4 p5 p6 300 9720000 (by omega) (by omega) (by omega) (by omega) (by omega) (by omega) (by omega)⟩

/- .. and the other form: the signs first, then the squares -/
theorem ordI_lt {a b : Int} (h : a < b) : ordI a b = -1 := by simp [ordI, h]
theorem ordI_gt {a b : Int} (h : b < a) : ordI a b = 1 := by unfold ordI; rw [if_neg (by omega), if_pos h]
theorem ssq_neg {x : Int} (h : x < 0) : ssq x = -(x * x) := by unfold ssq; rw [if_pos h]; grind
theorem ssq_pos {x : Int} (h : 0 ≤ x) : ssq x = x * x := by unfold ssq; rw [if_neg (by omega)]
theorem sgn_neg {x : Int} (h : x < 0) : sgn x = -1 := by simp [sgn, h]
theorem sgn_pos {x : Int} (h : 0 < x) : sgn x = 1 := by unfold sgn; rw [if_neg (by omega), if_pos h]
theorem sgn_zero : sgn 0 = 0 := by simp [sgn]
def cosS (x y p q : Int) : Int :=
  if sgn x ≠ sgn y then sgn (wrap64 (sgn x - sgn y)) else if p < q then wrap64 (-sgn x) else if q < p then sgn x else 0
theorem cos_spec {x y L M : Int} (hL : 0 < L) (hM : 0 < M) : cosS x y (x * x * L) (y * y * M) = ordI (ssq x * L) (ssq y * M) := by
  have sq : ∀ {x L : Int}, x ≠ 0 → 0 < L → 0 < x * x * L := fun {x L} h hL => by
    have h0 : 0 ≤ x * x := by rw [← Int.natAbs_mul_self' x]; exact Int.natCast_nonneg _
    have : x * x ≠ 0 := fun e => by rcases Int.mul_eq_zero.1 e with e | e <;> exact h e
    exact Int.mul_pos (by omega) hL
  have xL : x ≠ 0 → 0 < x * x * L := fun h => sq h hL
  have yM : y ≠ 0 → 0 < y * y * M := fun h => sq h hM
  have nx : -(x * x) * L = -(x * x * L) := by grind
  have ny : -(y * y) * M = -(y * y * M) := by grind
  have w1 : wrap64 (-1) = -1 := wrap_id (by omega) (by omega)
  have w2 : wrap64 (-2) = -2 := wrap_id (by omega) (by omega)
  have w3 : wrap64 1 = 1 := wrap_id (by omega) (by omega)
  have w4 : wrap64 2 = 2 := wrap_id (by omega) (by omega)
  have z0 : ssq 0 = 0 := by simp [ssq]
  unfold cosS
  rcases Int.lt_trichotomy x 0 with hx0 | hx0 | hx0 <;> rcases Int.lt_trichotomy y 0 with hy0 | hy0 | hy0
  · rw [sgn_neg hx0, sgn_neg hy0, ssq_neg hx0, ssq_neg hy0, nx, ny, if_neg (by simp), show (-(-1) : Int) = 1 from rfl, w3]
    unfold ordI
    split
    · rw [if_neg (by omega), if_pos (by omega)]
    · split
      · rw [if_pos (by omega)]
      · rw [if_neg (by omega), if_neg (by omega)]
  · subst hy0
    have := xL (by omega)
    rw [sgn_neg hx0, sgn_zero, ssq_neg hx0, z0, nx, ordI_lt (by omega), if_pos (by simp), show (-1 - 0 : Int) = -1 from rfl, w1, sgn_neg (by omega)]
  · have := xL (by omega)
    have := yM (by omega)
    rw [sgn_neg hx0, sgn_pos hy0, ssq_neg hx0, ssq_pos (by omega), nx, ordI_lt (by omega), if_pos (by simp), show (-1 - 1 : Int) = -2 from rfl, w2, sgn_neg (by omega)]
  · subst hx0
    have := yM (by omega)
    rw [sgn_neg hy0, sgn_zero, ssq_neg hy0, z0, ny, ordI_gt (by omega), if_pos (by simp), show (0 - -1 : Int) = 1 from rfl, w3, sgn_pos (by omega)]
  · subst hx0; subst hy0
    simp [ordI, ssq, sgn]
  · subst hx0
    have := yM (by omega)
    rw [sgn_pos hy0, sgn_zero, ssq_pos (x := y) (by omega), z0, ordI_lt (by omega), if_pos (by simp), show (0 - 1 : Int) = -1 from rfl, w1, sgn_neg (by omega)]
  · have := xL (by omega)
    have := yM (by omega)
    rw [sgn_pos hx0, sgn_neg hy0, ssq_neg hy0, ssq_pos (by omega), ny, ordI_gt (by omega), if_pos (by simp), show (1 - -1 : Int) = 2 from rfl, w4, sgn_pos (by omega)]
  · subst hy0
    have := xL (by omega)
    rw [sgn_pos hx0, sgn_zero, ssq_pos (x := x) (by omega), z0, ordI_gt (by omega), if_pos (by simp), show (1 - 0 : Int) = 1 from rfl, w3, sgn_pos (by omega)]
  · rw [sgn_pos hx0, sgn_pos hy0, ssq_pos (x := x) (by omega), ssq_pos (x := y) (by omega), if_neg (by simp), w1]
    rfl
end Go.Proofs.YtnffnjljjecphaaDoor

namespace Go.Proofs.YtnffnjljjecphaaDoor
open Go.RowKit
set_option linter.unusedVariables false

/-- a star: its Id, X, Y and Z -/
abbrev St := Int × Int × Int × Int
def stC (s : St) : List Value := [.int .i64 s.1, .int .i64 s.2.1, .int .i64 s.2.2.1, .int .i64 s.2.2.2]
def stA (L : List St) (i : Nat) : St := L.getD i (0, 0, 0, 0)
def idB (n : Int) : Bool := decide (1 ≤ n) && decide (n ≤ 9999)
def upB (L : List St) (i : Nat) : Bool := decide (i = 0) || decide ((stA L (i - 1)).1 < (stA L i).1)
def eqI (a1 a2 a3 b1 b2 b3 : Int) : Bool := decide (a1 = b1 ∧ a2 = b2 ∧ a3 = b3)
def primeB (x y z : Int) : Bool := eqI x y z (prI (rightB x y z) (gI x y z) x) (prI (rightB x y z) (gI x y z) y) (prI (rightB x y z) (gI x y z) z)
def sameS (p q : St) : Bool := sameB p.2.1 p.2.2.1 p.2.2.2 q.2.1 q.2.2.1 q.2.2.2
def freeTo (L : List St) (s : St) (k : Nat) : Prop := ∀ j, j < k → sameS s (stA L j) = false
def takenB (L : List St) (s : St) (n : Nat) : Bool := (List.range n).any fun j => sameS s (stA L j)
def okAt (L : List St) (i : Nat) : Bool :=
  idB (stA L i).1 && upB L i && (smallB (stA L i).2.1 (stA L i).2.2.1 (stA L i).2.2.2 && primeB (stA L i).2.1 (stA L i).2.2.1 (stA L i).2.2.2) && !takenB L (stA L i) i
def okTo (L : List St) (k : Nat) : Prop := ∀ j, j < k → okAt L j = true
def skyB (L : List St) : Bool := decide (L.length ≤ 12) && (List.range L.length).all (okAt L)

theorem taken_no {L : List St} {s : St} {n : Nat} (h : freeTo L s n) : takenB L s n = false := by
  unfold takenB
  rw [List.any_eq_false]
  intro j hj
  rw [h j (List.mem_range.1 hj)]
  simp
theorem taken_yes {L : List St} {s : St} {n j : Nat} (hj : j < n) (h : sameS s (stA L j) = true) : takenB L s n = true := by
  unfold takenB
  rw [List.any_eq_true]
  exact ⟨j, List.mem_range.2 hj, h⟩
theorem free_step {L : List St} {s : St} {k : Nat} (h : freeTo L s k) (h1 : sameS s (stA L k) = false) : freeTo L s (k + 1) := by
  intro j hj
  by_cases e : j = k
  · rw [e]; exact h1
  · exact h j (by omega)
theorem ok_step {L : List St} {k : Nat} (h : okTo L k) (h1 : okAt L k = true) : okTo L (k + 1) := by
  intro j hj
  by_cases e : j = k
  · rw [e]; exact h1
  · exact h j (by omega)
theorem sky_yes {L : List St} (hl : L.length ≤ 12) (h : okTo L L.length) : skyB L = true := by
  unfold skyB
  rw [Bool.and_eq_true, List.all_eq_true]
  exact ⟨by simpa using hl, fun j hj => h j (List.mem_range.1 hj)⟩
theorem sky_no {L : List St} {k : Nat} (hk : k < L.length) (h : okAt L k = false) : skyB L = false := by
  unfold skyB
  have : (List.range L.length).all (okAt L) = false := by
    rw [List.all_eq_false]
    exact ⟨k, List.mem_range.2 hk, by rw [h]; simp⟩
  rw [this, Bool.and_false]
theorem sky_long {L : List St} (hl : 12 < L.length) : skyB L = false := by
  unfold skyB
  rw [show decide (L.length ≤ 12) = false by simp; omega, Bool.false_and]
theorem sky_ok {L : List St} (h : skyB L = true) : L.length ≤ 12 ∧ okTo L L.length := by
  unfold skyB at h
  rw [Bool.and_eq_true, List.all_eq_true] at h
  exact ⟨by simpa using h.1, fun j hj => h.2 j (List.mem_range.2 hj)⟩

theorem ok_small {L : List St} {i : Nat} (h : okAt L i = true) : smallB (stA L i).2.1 (stA L i).2.2.1 (stA L i).2.2.2 = true := by
  unfold okAt at h
  simp only [Bool.and_eq_true] at h
  exact h.1.2.1

theorem small_iff {x y z : Int} (h : smallB x y z = true) : rightB x y z = true ∧ withinB 10 x y z = true := by simpa [smallB] using h

/-- on small directions it does not matter which is first -/
theorem sameB_comm {a1 a2 a3 b1 b2 b3 : Int} (ha : smallB a1 a2 a3 = true) (hb : smallB b1 b2 b3 = true) : sameB a1 a2 a3 b1 b2 b3 = sameB b1 b2 b3 a1 a2 a3 := by
  obtain ⟨ra, wa⟩ := small_iff ha
  obtain ⟨rb, wb⟩ := small_iff hb
  obtain ⟨x1, x2, x3⟩ := withinB_iff.1 wa
  obtain ⟨y1, y2, y3⟩ := withinB_iff.1 wb
  have e1 := crW_eq x2 x3 y2 y3 (by omega)
  have e2 := crW_eq x3 x1 y3 y1 (by omega)
  have e3 := crW_eq x1 x2 y1 y2 (by omega)
  have f1 := crW_eq y2 y3 x2 x3 (by omega)
  have f2 := crW_eq y3 y1 x3 x1 (by omega)
  have f3 := crW_eq y1 y2 x1 x2 (by omega)
  unfold sameB
  rw [ra, rb, e1.1, e2.1, e3.1, f1.1, f2.1, f3.1, dotW_comm]
  congr 2
  unfold zeroB
  rw [Int.mul_comm b2, Int.mul_comm b3 a2, Int.mul_comm b3 a1, Int.mul_comm b1 a3, Int.mul_comm b1 a2, Int.mul_comm b2 a1]
  congr 1
  apply propext
  constructor <;> rintro ⟨h1, h2, h3⟩ <;> exact ⟨by omega, by omega, by omega⟩
/-- what the specification asks of two directions that are right -/
theorem same_eq {a1 a2 a3 b1 b2 b3 : Int} (ha : smallB a1 a2 a3 = true) (hb : smallB b1 b2 b3 = true) :
    (eqI (crW a2 a3 b2 b3) (crW a3 a1 b3 b1) (crW a1 a2 b1 b2) 0 0 0 && decide (0 < dotW a1 a2 a3 b1 b2 b3)) = sameB a1 a2 a3 b1 b2 b3 := by
  unfold sameB
  rw [(small_iff ha).1, (small_iff hb).1]
  rfl
end Go.Proofs.YtnffnjljjecphaaDoor

namespace Go.Proofs.YtnffnjljjecphaaDoor
open Go.RowKit
set_option linter.unusedVariables false

def inT (m a b c d : Int) : Bool := inB m a && inB m b && inB m c && inB m d
def zeroT (a b c d : Int) : Bool := decide (a = 0 ∧ b = 0 ∧ c = 0 ∧ d = 0)
def fT (a b c d : Int) : Int := if a ≠ 0 then a else if b ≠ 0 then b else if c ≠ 0 then c else d
def gT (a b c d : Int) : Int := ((Int.gcd ((Int.gcd a b : Nat) : Int) ((Int.gcd c d : Nat) : Int) : Nat) : Int)
def sT (a b c d : Int) : Int := if fT a b c d < 0 then -gT a b c d else gT a b c d
def rightT (a b c d : Int) : Bool := inT 5 a b c d && decide (0 < fT a b c d) && decide (gT a b c d = 1)
def eqT (a b c d a' b' c' d' : Int) : Bool := decide (a = a' ∧ b = b' ∧ c = c' ∧ d = d')

theorem inT_iff {m a b c d : Int} : inT m a b c d = true ↔ (-m ≤ a ∧ a ≤ m) ∧ (-m ≤ b ∧ b ≤ m) ∧ (-m ≤ c ∧ c ≤ m) ∧ (-m ≤ d ∧ d ≤ m) := by
  simp [inT, inB_iff, and_assoc]
theorem inT_mono {m n a b c d : Int} (h : inT m a b c d = true) (hmn : m ≤ n) : inT n a b c d = true := by
  rw [inT_iff] at h ⊢; omega
theorem fT_zero {a b c d : Int} : fT a b c d = 0 ↔ (a = 0 ∧ b = 0 ∧ c = 0 ∧ d = 0) := by
  unfold fT
  split
  · omega
  · split
    · omega
    · split <;> omega
theorem fT_mem (a b c d : Int) : fT a b c d = a ∨ fT a b c d = b ∨ fT a b c d = c ∨ fT a b c d = d := by
  unfold fT
  split
  · exact .inl rfl
  · split
    · exact .inr (.inl rfl)
    · split
      · exact .inr (.inr (.inl rfl))
      · exact .inr (.inr (.inr rfl))
theorem gT_nonneg (a b c d : Int) : 0 ≤ gT a b c d := Int.natCast_nonneg _
theorem gT_pos {a b c d : Int} (h : ¬ (a = 0 ∧ b = 0 ∧ c = 0 ∧ d = 0)) : 0 < gT a b c d := by
  unfold gT
  have h2 : Int.gcd ((Int.gcd a b : Nat) : Int) ((Int.gcd c d : Nat) : Int) ≠ 0 := by
    intro e
    rw [Int.gcd_eq_zero_iff] at e
    have e1 : Int.gcd a b = 0 := by omega
    have e2 : Int.gcd c d = 0 := by omega
    rw [Int.gcd_eq_zero_iff] at e1 e2
    exact h ⟨e1.1, e1.2, e2.1, e2.2⟩
  omega
theorem gT_dvd (a b c d : Int) : gT a b c d ∣ a ∧ gT a b c d ∣ b ∧ gT a b c d ∣ c ∧ gT a b c d ∣ d := by
  have h1 := Int.gcd_dvd_left (a := ((Int.gcd a b : Nat) : Int)) (b := ((Int.gcd c d : Nat) : Int))
  have h2 := Int.gcd_dvd_right (a := ((Int.gcd a b : Nat) : Int)) (b := ((Int.gcd c d : Nat) : Int))
  exact ⟨Int.dvd_trans h1 (Int.gcd_dvd_left ..), Int.dvd_trans h1 (Int.gcd_dvd_right ..), Int.dvd_trans h2 (Int.gcd_dvd_left ..), Int.dvd_trans h2 (Int.gcd_dvd_right ..)⟩
theorem gcd_four (a b c d : Int) : ((Int.gcd ((Int.gcd ((Int.gcd ((Int.gcd 0 a : Nat) : Int) b : Nat) : Int) c : Nat) : Int) d : Nat) : Int) = gT a b c d := by
  unfold gT
  have h1 : Int.gcd ((Int.gcd 0 a : Nat) : Int) b = Int.gcd a b := by
    rw [Int.gcd_zero_left]
    show Nat.gcd (a.natAbs : Int).natAbs b.natAbs = Nat.gcd a.natAbs b.natAbs
    rw [Int.natAbs_natCast]
  rw [h1]
  show ((Nat.gcd (Nat.gcd (Int.gcd a b) c.natAbs) d.natAbs : Nat) : Int) = ((Nat.gcd (Int.gcd a b) (Nat.gcd c.natAbs d.natAbs) : Nat) : Int)
  rw [Nat.gcd_assoc]
theorem sT_ne {a b c d : Int} (h : ¬ (a = 0 ∧ b = 0 ∧ c = 0 ∧ d = 0)) : sT a b c d ≠ 0 := by
  have := gT_pos h
  unfold sT
  split <;> omega
theorem sT_dvd (a b c d : Int) : sT a b c d ∣ a ∧ sT a b c d ∣ b ∧ sT a b c d ∣ c ∧ sT a b c d ∣ d := by
  have h := gT_dvd a b c d
  unfold sT
  split
  · exact ⟨Int.neg_dvd.2 h.1, Int.neg_dvd.2 h.2.1, Int.neg_dvd.2 h.2.2.1, Int.neg_dvd.2 h.2.2.2⟩
  · exact h

theorem tdiv_self_eq {f s : Int} (hf : f ≠ 0) (h : f.tdiv s = f) : s = 1 := by
  have hn : f.natAbs / s.natAbs = f.natAbs := by
    have e : (f.tdiv s).natAbs = f.natAbs / s.natAbs := Int.natAbs_tdiv f s
    rw [← e, h]
  have h0 : s.natAbs ≠ 0 := by
    intro e
    rw [e, Nat.div_zero] at hn
    omega
  have h1 : s.natAbs < 2 := by
    rcases Nat.lt_or_ge s.natAbs 2 with h | h
    · exact h
    · have := Nat.div_lt_self (n := f.natAbs) (k := s.natAbs) (by omega) h
      omega
  rcases (show s = 1 ∨ s = -1 by omega) with e | e
  · exact e
  · rw [e, Int.tdiv_neg, Int.tdiv_one] at h
    omega
theorem tdiv_le {m x s : Int} (hx : -m ≤ x ∧ x ≤ m) : -m ≤ x.tdiv s ∧ x.tdiv s ≤ m := by
  have h : (x.tdiv s).natAbs ≤ x.natAbs := by rw [Int.natAbs_tdiv]; exact Nat.div_le_self _ _
  omega
theorem right_reduced {a b c d : Int} (hz : ¬ (a = 0 ∧ b = 0 ∧ c = 0 ∧ d = 0)) :
    eqT a b c d (a.tdiv (sT a b c d)) (b.tdiv (sT a b c d)) (c.tdiv (sT a b c d)) (d.tdiv (sT a b c d)) = (decide (0 < fT a b c d) && decide (gT a b c d = 1)) := by
  have hf : fT a b c d ≠ 0 := fun e => hz (fT_zero.1 e)
  rw [Bool.eq_iff_iff, Bool.and_eq_true, decide_eq_true_iff, decide_eq_true_iff]
  unfold eqT
  rw [decide_eq_true_iff]
  constructor
  · rintro ⟨h1, h2, h3, h4⟩
    have hs : sT a b c d = 1 := by
      rcases fT_mem a b c d with e | e | e | e
      · exact tdiv_self_eq (e ▸ hf) h1.symm
      · exact tdiv_self_eq (e ▸ hf) h2.symm
      · exact tdiv_self_eq (e ▸ hf) h3.symm
      · exact tdiv_self_eq (e ▸ hf) h4.symm
    have hg := gT_nonneg a b c d
    unfold sT at hs
    split at hs <;> omega
  · rintro ⟨h1, h2⟩
    have hs : sT a b c d = 1 := by unfold sT; rw [if_neg (by omega), h2]
    rw [hs]
    simp [Int.tdiv_one]
theorem rightT_iff {a b c d : Int} : rightT a b c d = true ↔ inT 5 a b c d = true ∧ 0 < fT a b c d ∧ gT a b c d = 1 := by
  simp [rightT, and_assoc]
theorem rightT_ne {a b c d : Int} (h : rightT a b c d = true) : ¬ (a = 0 ∧ b = 0 ∧ c = 0 ∧ d = 0) := by
  have := (rightT_iff.1 h).2.1
  intro e
  rw [fT_zero.2 e] at this
  omega

/- TurnOf -/
def ofC (a b c d : Int) : Int :=
  if inT 1000 a b c d && !zeroT a b c d then
    if rightT (a.tdiv (sT a b c d)) (b.tdiv (sT a b c d)) (c.tdiv (sT a b c d)) (d.tdiv (sT a b c d)) then 0 else 9
  else 1
def ofP (a b c d x : Int) : Int := if ofC a b c d = 0 then x.tdiv (sT a b c d) else 0
theorem ofC_form {a b c d : Int} (h : (inT 1000 a b c d && !zeroT a b c d) = false) : ofC a b c d = 1 := by unfold ofC; rw [h]; rfl
theorem zeroT_iff {a b c d : Int} : zeroT a b c d = true ↔ (a = 0 ∧ b = 0 ∧ c = 0 ∧ d = 0) := by simp [zeroT]
theorem ofC_right {a b c d : Int} (h : ofC a b c d = 0) : inT 1000 a b c d = true ∧ ¬ (a = 0 ∧ b = 0 ∧ c = 0 ∧ d = 0) ∧ rightT (a.tdiv (sT a b c d)) (b.tdiv (sT a b c d)) (c.tdiv (sT a b c d)) (d.tdiv (sT a b c d)) = true := by
  unfold ofC at h
  split at h
  · next h1 =>
    rw [Bool.and_eq_true, Bool.not_eq_true'] at h1
    split at h
    · next h2 => exact ⟨h1.1, fun e => by rw [zeroT_iff.2 e] at h1; exact absurd h1.2 (by decide), h2⟩
    · exact absurd h (by decide)
  · exact absurd h (by decide)
theorem of_right {a b c d : Int} (h : rightT a b c d = true) : ofC a b c d = 0 ∧ sT a b c d = 1 := by
  have h' := rightT_iff.1 h
  have hs : sT a b c d = 1 := by unfold sT; rw [if_neg (by omega), h'.2.2]
  refine ⟨?_, hs⟩
  unfold ofC
  rw [hs, Int.tdiv_one, Int.tdiv_one, Int.tdiv_one, Int.tdiv_one, h, inT_mono h'.1 (by omega)]
  have : zeroT a b c d = false := by
    rw [← Bool.not_eq_true, zeroT_iff]; exact rightT_ne h
  rw [this]; rfl
theorem fT_neg (a b c d : Int) : fT (-a) (-b) (-c) (-d) = -fT a b c d := by
  unfold fT
  by_cases h1 : a = 0
  · by_cases h2 : b = 0
    · by_cases h3 : c = 0
      · simp [h1, h2, h3]
      · simp [h1, h2, h3]
    · simp [h1, h2]
  · simp [h1]
theorem gT_neg (a b c d : Int) : gT (-a) (-b) (-c) (-d) = gT a b c d := by
  unfold gT
  simp [Int.gcd_neg, Int.neg_gcd]
theorem gT_negs (a b c d : Int) : gT a (-b) (-c) (-d) = gT a b c d := by
  unfold gT
  simp [Int.gcd_neg, Int.neg_gcd]
/- what is turned back: the sign by which all parts go -/
def bS (a : Int) : Int := if a = 0 then -1 else 1
theorem back_s {a b c d : Int} (h : rightT a b c d = true) : sT a (-b) (-c) (-d) = bS a ∧ ofC a (-b) (-c) (-d) = 0 := by
  have h' := rightT_iff.1 h
  have hi := inT_iff.1 h'.1
  have hz := rightT_ne h
  have hg : gT a (-b) (-c) (-d) = 1 := by rw [gT_negs]; exact h'.2.2
  have hs : sT a (-b) (-c) (-d) = bS a := by
    unfold sT bS
    rw [hg]
    by_cases ha : a = 0
    · subst ha
      have e : fT 0 (-b) (-c) (-d) = -fT 0 b c d := by have := fT_neg 0 b c d; simpa using this
      rw [e, if_pos (by omega), if_pos rfl]
    · have e : fT a (-b) (-c) (-d) = a := by unfold fT; rw [if_pos ha]
      have e2 : fT a b c d = a := by unfold fT; rw [if_pos ha]
      rw [e, if_neg (by omega), if_neg ha]
  refine ⟨hs, ?_⟩
  unfold ofC
  have hin : inT 1000 a (-b) (-c) (-d) = true := by rw [inT_iff]; omega
  have hzt : zeroT a (-b) (-c) (-d) = false := by rw [← Bool.not_eq_true, zeroT_iff]; omega
  rw [hin, hzt, hs]
  have hr : rightT (a.tdiv (bS a)) ((-b).tdiv (bS a)) ((-c).tdiv (bS a)) ((-d).tdiv (bS a)) = true := by
    unfold bS
    split
    · next e =>
      subst e
      simp only [Int.tdiv_neg, Int.tdiv_one, Int.neg_neg, Int.neg_zero]
      exact h
    · next e =>
      simp only [Int.tdiv_one]
      rw [rightT_iff]
      refine ⟨by rw [inT_iff]; omega, ?_, hg⟩
      have e1 : fT a (-b) (-c) (-d) = a := by unfold fT; rw [if_pos e]
      have e2 : fT a b c d = a := by unfold fT; rw [if_pos e]
      omega
  rw [hr]; rfl
theorem bS_cases (a : Int) : bS a = 1 ∨ bS a = -1 := by unfold bS; split <;> simp
theorem bS_sq (a : Int) : bS a * bS a = 1 := by rcases bS_cases a with h | h <;> rw [h] <;> rfl
theorem tdiv_bS (a x : Int) : x.tdiv (bS a) = bS a * x := by
  rcases bS_cases a with h | h <;> rw [h] <;> simp [Int.tdiv_neg, Int.tdiv_one]
/- the parts of what turns back -/
def bkP (a b c d x : Int) : Int := if rightT a b c d then ofP a (-b) (-c) (-d) x else 0
theorem bkP_right {a b c d : Int} (h : rightT a b c d = true) (x : Int) : bkP a b c d x = bS a * x := by
  unfold bkP ofP
  rw [if_pos h, if_pos (back_s h).2, (back_s h).1, tdiv_bS]
theorem back_right {a b c d : Int} (h : rightT a b c d = true) : rightT (bS a * a) (bS a * -b) (bS a * -c) (bS a * -d) = true := by
  have h1 := (ofC_right (back_s h).2).2.2
  rw [(back_s h).1, tdiv_bS, tdiv_bS, tdiv_bS, tdiv_bS] at h1
  exact h1
theorem back_back {a b c d : Int} (h : rightT a b c d = true) : bS (bS a * a) * (bS a * a) = a ∧ bS (bS a * a) * -(bS a * -b) = b ∧ bS (bS a * a) * -(bS a * -c) = c ∧ bS (bS a * a) * -(bS a * -d) = d := by
  have e : bS (bS a * a) = bS a := by
    unfold bS
    split
    · next e => subst e; simp
    · next e => simp [e]
  have sq := bS_sq a
  rw [e]
  refine ⟨?_, ?_, ?_, ?_⟩ <;> grind
/- the square of a turn's length -/
def nT (a b c d : Int) : Int := a * a + b * b + c * c + d * d
theorem sqn (x : Int) : 0 ≤ x * x := by rw [← Int.natAbs_mul_self' x]; exact Int.natCast_nonneg _
theorem sqp {x : Int} (h : x ≠ 0) : 0 < x * x := by
  have := sqn x
  have : x * x ≠ 0 := fun e => by rcases Int.mul_eq_zero.1 e with e | e <;> exact h e
  omega
theorem nT_pos {a b c d : Int} (h : ¬ (a = 0 ∧ b = 0 ∧ c = 0 ∧ d = 0)) : 0 < nT a b c d := by
  have h1 := sqn a
  have h2 := sqn b
  have h3 := sqn c
  have h4 := sqn d
  unfold nT
  by_cases ha : a = 0
  · by_cases hb : b = 0
    · by_cases hc : c = 0
      · have := sqp (x := d) (fun e => h ⟨ha, hb, hc, e⟩); omega
      · have := sqp hc; omega
    · have := sqp hb; omega
  · have := sqp ha; omega
theorem nT_le {a b c d : Int} (h : inT 5 a b c d = true) : nT a b c d ≤ 100 := by
  rw [inT_iff] at h
  have h1 := mulB h.1 h.1
  have h2 := mulB h.2.1 h.2.1
  have h3 := mulB h.2.2.1 h.2.2.1
  have h4 := mulB h.2.2.2 h.2.2.2
  unfold nT
  omega
/- what a turn does to a direction -/
def apX (a b c d x y z : Int) : Int := (a * a + b * b - c * c - d * d) * x + 2 * (b * c - a * d) * y + 2 * (b * d + a * c) * z
def apY (a b c d x y z : Int) : Int := 2 * (b * c + a * d) * x + (a * a - b * b + c * c - d * d) * y + 2 * (c * d - a * b) * z
def apZ (a b c d x y z : Int) : Int := 2 * (b * d - a * c) * x + 2 * (c * d + a * b) * y + (a * a - b * b - c * c + d * d) * z
theorem ap_dot (a b c d x y z x' y' z' : Int) :
    dot (apX a b c d x y z) (apY a b c d x y z) (apZ a b c d x y z) (apX a b c d x' y' z') (apY a b c d x' y' z') (apZ a b c d x' y' z') = nT a b c d * nT a b c d * dot x y z x' y' z' := by
  unfold dot apX apY apZ nT
  grind
theorem ap_back (a b c d x y z : Int) :
    apX a (-b) (-c) (-d) (apX a b c d x y z) (apY a b c d x y z) (apZ a b c d x y z) = nT a b c d * nT a b c d * x ∧
    apY a (-b) (-c) (-d) (apX a b c d x y z) (apY a b c d x y z) (apZ a b c d x y z) = nT a b c d * nT a b c d * y ∧
    apZ a (-b) (-c) (-d) (apX a b c d x y z) (apY a b c d x y z) (apZ a b c d x y z) = nT a b c d * nT a b c d * z := by
  unfold apX apY apZ nT
  refine ⟨?_, ?_, ?_⟩ <;> grind
theorem ap_scale (k a b c d x y z : Int) : apX (k * a) (k * b) (k * c) (k * d) x y z = k * k * apX a b c d x y z ∧ apY (k * a) (k * b) (k * c) (k * d) x y z = k * k * apY a b c d x y z ∧ apZ (k * a) (k * b) (k * c) (k * d) x y z = k * k * apZ a b c d x y z := by
  unfold apX apY apZ
  refine ⟨?_, ?_, ?_⟩ <;> grind
theorem ap_lin (k a b c d x y z : Int) : apX a b c d (k * x) (k * y) (k * z) = k * apX a b c d x y z ∧ apY a b c d (k * x) (k * y) (k * z) = k * apY a b c d x y z ∧ apZ a b c d (k * x) (k * y) (k * z) = k * apZ a b c d x y z := by
  unfold apX apY apZ
  refine ⟨?_, ?_, ?_⟩ <;> grind
/- two turns together -/
def coA (s1 s2 s3 s4 t1 t2 t3 t4 : Int) : Int := s1 * t1 - s2 * t2 - s3 * t3 - s4 * t4
def coB (s1 s2 s3 s4 t1 t2 t3 t4 : Int) : Int := s1 * t2 + s2 * t1 + s3 * t4 - s4 * t3
def coC (s1 s2 s3 s4 t1 t2 t3 t4 : Int) : Int := s1 * t3 - s2 * t4 + s3 * t1 + s4 * t2
def coD (s1 s2 s3 s4 t1 t2 t3 t4 : Int) : Int := s1 * t4 + s2 * t3 - s3 * t2 + s4 * t1
theorem ap_co (s1 s2 s3 s4 t1 t2 t3 t4 x y z : Int) :
    apX (coA s1 s2 s3 s4 t1 t2 t3 t4) (coB s1 s2 s3 s4 t1 t2 t3 t4) (coC s1 s2 s3 s4 t1 t2 t3 t4) (coD s1 s2 s3 s4 t1 t2 t3 t4) x y z = apX s1 s2 s3 s4 (apX t1 t2 t3 t4 x y z) (apY t1 t2 t3 t4 x y z) (apZ t1 t2 t3 t4 x y z) ∧
    apY (coA s1 s2 s3 s4 t1 t2 t3 t4) (coB s1 s2 s3 s4 t1 t2 t3 t4) (coC s1 s2 s3 s4 t1 t2 t3 t4) (coD s1 s2 s3 s4 t1 t2 t3 t4) x y z = apY s1 s2 s3 s4 (apX t1 t2 t3 t4 x y z) (apY t1 t2 t3 t4 x y z) (apZ t1 t2 t3 t4 x y z) ∧
    apZ (coA s1 s2 s3 s4 t1 t2 t3 t4) (coB s1 s2 s3 s4 t1 t2 t3 t4) (coC s1 s2 s3 s4 t1 t2 t3 t4) (coD s1 s2 s3 s4 t1 t2 t3 t4) x y z = apZ s1 s2 s3 s4 (apX t1 t2 t3 t4 x y z) (apY t1 t2 t3 t4 x y z) (apZ t1 t2 t3 t4 x y z) := by
  unfold apX apY apZ coA coB coC coD
  refine ⟨?_, ?_, ?_⟩ <;> grind
end Go.Proofs.YtnffnjljjecphaaDoor
