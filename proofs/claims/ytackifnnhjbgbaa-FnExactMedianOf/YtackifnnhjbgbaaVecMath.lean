/- Plain facts on directions of whole numbers: products, the greatest shared number, cosines held against each other; nothing of the program in them. -/
import Derived.WalkKit
namespace Go.Proofs.Ytackifnnhjbgbaa
open Go.RowKit
set_option linter.unusedVariables false

def inB (m x : Int) : Bool := decide (-m ≤ x ∧ x ≤ m)
def withinB (m x y z : Int) : Bool := inB m x && inB m y && inB m z
def zeroB (x y z : Int) : Bool := decide (x = 0 ∧ y = 0 ∧ z = 0)
def rightB (x y z : Int) : Bool := withinB 1000000 x y z && !zeroB x y z

theorem inB_iff {m x : Int} : inB m x = true ↔ -m ≤ x ∧ x ≤ m := by simp [inB]
theorem withinB_iff {m x y z : Int} : withinB m x y z = true ↔ (-m ≤ x ∧ x ≤ m) ∧ (-m ≤ y ∧ y ≤ m) ∧ (-m ≤ z ∧ z ≤ m) := by
  simp [withinB, inB_iff, and_assoc]
theorem rightB_iff {x y z : Int} : rightB x y z = true ↔ ((-1000000 ≤ x ∧ x ≤ 1000000) ∧ (-1000000 ≤ y ∧ y ≤ 1000000) ∧ (-1000000 ≤ z ∧ z ≤ 1000000)) ∧ ¬ (x = 0 ∧ y = 0 ∧ z = 0) := by
  unfold rightB
  rw [Bool.and_eq_true, withinB_iff]
  simp only [zeroB, Bool.not_eq_true', decide_eq_false_iff_not]

theorem wrap_id {n : Int} (h0 : -9223372036854775808 ≤ n) (h1 : n ≤ 9223372036854775807) : wrap64 n = n := by
  exact Go.IntWalk.wrap64_in n ⟨h0, h1⟩

theorem mulB {a b A B : Int} (h1 : -A ≤ a ∧ a ≤ A) (h3 : -B ≤ b ∧ b ≤ B) : -(A * B) ≤ a * b ∧ a * b ≤ A * B := by
  have h : (a * b).natAbs ≤ A.natAbs * B.natAbs := by
    rw [Int.natAbs_mul]; exact Nat.mul_le_mul (by omega) (by omega)
  have : ((A.natAbs * B.natAbs : Nat) : Int) = A * B := by
    rw [Int.natCast_mul, Int.natAbs_of_nonneg (by omega), Int.natAbs_of_nonneg (by omega)]
  omega

/- products -/
def dotW (a1 a2 a3 b1 b2 b3 : Int) : Int := wrap64 (wrap64 (wrap64 (a1 * b1) + wrap64 (a2 * b2)) + wrap64 (a3 * b3))
def dot (a1 a2 a3 b1 b2 b3 : Int) : Int := a1 * b1 + a2 * b2 + a3 * b3
def crW (a2 a3 b2 b3 : Int) : Int := wrap64 (wrap64 (a2 * b3) - wrap64 (a3 * b2))

theorem dotW_comm (a1 a2 a3 b1 b2 b3 : Int) : dotW a1 a2 a3 b1 b2 b3 = dotW b1 b2 b3 a1 a2 a3 := by
  unfold dotW; rw [Int.mul_comm a1, Int.mul_comm a2, Int.mul_comm a3]
theorem dot_comm (a1 a2 a3 b1 b2 b3 : Int) : dot a1 a2 a3 b1 b2 b3 = dot b1 b2 b3 a1 a2 a3 := by
  unfold dot; rw [Int.mul_comm a1, Int.mul_comm a2, Int.mul_comm a3]
theorem dot_bound {a1 a2 a3 b1 b2 b3 A B : Int} (ha : withinB A a1 a2 a3 = true) (hb : withinB B b1 b2 b3 = true) : -(3 * (A * B)) ≤ dot a1 a2 a3 b1 b2 b3 ∧ dot a1 a2 a3 b1 b2 b3 ≤ 3 * (A * B) := by
  rw [withinB_iff] at ha hb
  have h1 := mulB ha.1 hb.1
  have h2 := mulB ha.2.1 hb.2.1
  have h3 := mulB ha.2.2 hb.2.2
  unfold dot
  omega
theorem dotW_eq {a1 a2 a3 b1 b2 b3 A B : Int} (ha : withinB A a1 a2 a3 = true) (hb : withinB B b1 b2 b3 = true) (h : 3 * (A * B) ≤ 9223372036854775807) : dotW a1 a2 a3 b1 b2 b3 = dot a1 a2 a3 b1 b2 b3 := by
  rw [withinB_iff] at ha hb
  have h1 := mulB ha.1 hb.1
  have h2 := mulB ha.2.1 hb.2.1
  have h3 := mulB ha.2.2 hb.2.2
  unfold dotW dot
  rw [wrap_id (n := a1 * b1) (by omega) (by omega), wrap_id (n := a2 * b2) (by omega) (by omega), wrap_id (n := a3 * b3) (by omega) (by omega), wrap_id (n := a1 * b1 + a2 * b2) (by omega) (by omega), wrap_id (by omega) (by omega)]
theorem crW_eq {a2 a3 b2 b3 A B : Int} (h2 : -A ≤ a2 ∧ a2 ≤ A) (h3 : -A ≤ a3 ∧ a3 ≤ A) (k2 : -B ≤ b2 ∧ b2 ≤ B) (k3 : -B ≤ b3 ∧ b3 ≤ B) (h : 2 * (A * B) ≤ 9223372036854775807) :
    crW a2 a3 b2 b3 = a2 * b3 - a3 * b2 ∧ -(2 * (A * B)) ≤ a2 * b3 - a3 * b2 ∧ a2 * b3 - a3 * b2 ≤ 2 * (A * B) := by
  have h1 := mulB h2 k3
  have h2 := mulB h3 k2
  unfold crW
  rw [wrap_id (n := a2 * b3) (by omega) (by omega), wrap_id (n := a3 * b2) (by omega) (by omega), wrap_id (by omega) (by omega)]
  omega
theorem crW_zero (k a b : Int) : crW a b (k * a) (k * b) = 0 := by
  unfold crW
  rw [show a * (k * b) = b * (k * a) by grind, Int.sub_self]
  exact wrap_id (by omega) (by omega)

/- what the calls answer -/
def dotI (a1 a2 a3 b1 b2 b3 : Int) : Int := if rightB a1 a2 a3 && rightB b1 b2 b3 then dotW a1 a2 a3 b1 b2 b3 else 0
def crI (r : Bool) (a2 a3 b2 b3 : Int) : Int := if r then crW a2 a3 b2 b3 else 0
def detI (a1 a2 a3 b1 b2 b3 c1 c2 c3 : Int) : Int :=
  if rightB a1 a2 a3 && rightB b1 b2 b3 && rightB c1 c2 c3 then dotW (crW a2 a3 b2 b3) (crW a3 a1 b3 b1) (crW a1 a2 b1 b2) c1 c2 c3 else 0
def gI (x y z : Int) : Int := ((Int.gcd (Int.gcd x y : Int) z : Nat) : Int)
def prI (r : Bool) (g x : Int) : Int := if r then wrap64 (x.tdiv g) else 0
def sameB (a1 a2 a3 b1 b2 b3 : Int) : Bool :=
  rightB a1 a2 a3 && rightB b1 b2 b3 && zeroB (crW a2 a3 b2 b3) (crW a3 a1 b3 b1) (crW a1 a2 b1 b2) && decide (0 < dotW a1 a2 a3 b1 b2 b3)

theorem dotI_comm (a1 a2 a3 b1 b2 b3 : Int) : dotI a1 a2 a3 b1 b2 b3 = dotI b1 b2 b3 a1 a2 a3 := by
  unfold dotI; rw [dotW_comm, Bool.and_comm]
theorem det_fits {a1 a2 a3 b1 b2 b3 c1 c2 c3 : Int} (ha : rightB a1 a2 a3 = true) (hb : rightB b1 b2 b3 = true) (hc : rightB c1 c2 c3 = true) :
    detI a1 a2 a3 b1 b2 b3 c1 c2 c3 = (a2 * b3 - a3 * b2) * c1 + (a3 * b1 - a1 * b3) * c2 + (a1 * b2 - a2 * b1) * c3 := by
  unfold detI
  rw [ha, hb, hc]
  rw [rightB_iff] at ha hb hc
  obtain ⟨⟨x1, x2, x3⟩, _⟩ := ha
  obtain ⟨⟨y1, y2, y3⟩, _⟩ := hb
  obtain ⟨⟨z1, z2, z3⟩, _⟩ := hc
  have e1 := crW_eq x2 x3 y2 y3 (by omega)
  have e2 := crW_eq x3 x1 y3 y1 (by omega)
  have e3 := crW_eq x1 x2 y1 y2 (by omega)
  rw [if_pos (by rfl), e1.1, e2.1, e3.1, dotW_eq (A := 2000000000000) (B := 1000000) (withinB_iff.2 ⟨by omega, by omega, by omega⟩) (withinB_iff.2 ⟨z1, z2, z3⟩) (by omega)]
  rfl
theorem detI_aba (a1 a2 a3 b1 b2 b3 : Int) : detI a1 a2 a3 b1 b2 b3 a1 a2 a3 = 0 := by
  by_cases h : rightB a1 a2 a3 = true ∧ rightB b1 b2 b3 = true
  · rw [det_fits h.1 h.2 h.1]; grind
  · unfold detI; rw [if_neg]; intro hh; simp at hh; exact h hh.1
theorem detI_abb (a1 a2 a3 b1 b2 b3 : Int) : detI a1 a2 a3 b1 b2 b3 b1 b2 b3 = 0 := by
  by_cases h : rightB a1 a2 a3 = true ∧ rightB b1 b2 b3 = true
  · rw [det_fits h.1 h.2 h.2]; grind
  · unfold detI; rw [if_neg]; intro hh; simp at hh; exact h hh

/- the greatest shared number -/
theorem gcd_step (a b : Int) : Int.gcd b (a.tmod b) = Int.gcd a b := by
  show Nat.gcd b.natAbs (a.tmod b).natAbs = Nat.gcd a.natAbs b.natAbs
  rw [Int.natAbs_tmod, Nat.gcd_comm b.natAbs, ← Nat.gcd_rec, Nat.gcd_comm]
theorem gcd_zero (a : Int) : ((Int.gcd a 0 : Nat) : Int) = if a < 0 then -a else a := by
  rw [Int.gcd_zero_right]
  split <;> omega
theorem tmod_lt (a b : Int) (h : b ≠ 0) : (a.tmod b).natAbs < b.natAbs := by
  rw [Int.natAbs_tmod]; exact Nat.mod_lt _ (by omega)
theorem gcd_le {a b m : Int} (ha : -m ≤ a ∧ a ≤ m) (hb : -m ≤ b ∧ b ≤ m) : 0 ≤ ((Int.gcd a b : Nat) : Int) ∧ ((Int.gcd a b : Nat) : Int) ≤ m := by
  refine ⟨by omega, ?_⟩
  by_cases h : a = 0
  · subst h; rw [Int.gcd_zero_left]; omega
  · have := Nat.le_of_dvd (by omega) (Nat.gcd_dvd_left a.natAbs b.natAbs)
    have e : Int.gcd a b = Nat.gcd a.natAbs b.natAbs := rfl
    omega
theorem gcd_three (x y z : Int) : ((Int.gcd ((Int.gcd ((Int.gcd 0 x : Nat) : Int) y : Nat) : Int) z : Nat) : Int) = gI x y z := by
  unfold gI
  have : Int.gcd ((Int.gcd 0 x : Nat) : Int) y = Int.gcd x y := by
    rw [Int.gcd_zero_left]
    show Nat.gcd (x.natAbs : Int).natAbs y.natAbs = Nat.gcd x.natAbs y.natAbs
    rw [Int.natAbs_natCast]
  rw [this]
theorem gI_pos {x y z : Int} (h : rightB x y z = true) : 0 < gI x y z := by
  rw [rightB_iff] at h
  unfold gI
  have h2 : Int.gcd ((Int.gcd x y : Nat) : Int) z ≠ 0 := by
    intro e
    rw [Int.gcd_eq_zero_iff] at e
    have e1 : Int.gcd x y = 0 := by omega
    rw [Int.gcd_eq_zero_iff] at e1
    exact h.2 ⟨e1.1, e1.2, e.2⟩
  omega
theorem gI_mul {k : Int} (hk : 0 ≤ k) (x y z : Int) : gI (k * x) (k * y) (k * z) = k * gI x y z := by
  unfold gI
  rw [Int.gcd_mul_left, Int.natCast_mul, Int.natAbs_of_nonneg hk, Int.gcd_mul_left, Int.natCast_mul, Int.natAbs_of_nonneg hk]
theorem prI_mul {k g : Int} (hk : 0 < k) (r : Bool) (x : Int) : prI r (k * g) (k * x) = prI r g x := by
  unfold prI
  rw [Int.mul_tdiv_mul_of_pos _ _ hk]

/- the same way -/
theorem sq_pos {x y z : Int} (h : ¬ (x = 0 ∧ y = 0 ∧ z = 0)) : 0 < dot x y z x y z := by
  unfold dot
  have hx : 0 ≤ x * x := by rw [← Int.natAbs_mul_self' x]; exact Int.natCast_nonneg _
  have hy : 0 ≤ y * y := by rw [← Int.natAbs_mul_self' y]; exact Int.natCast_nonneg _
  have hz : 0 ≤ z * z := by rw [← Int.natAbs_mul_self' z]; exact Int.natCast_nonneg _
  by_cases h1 : x = 0
  · by_cases h2 : y = 0
    · have h3 : z ≠ 0 := fun e => h ⟨h1, h2, e⟩
      have : z * z ≠ 0 := fun e => by rcases Int.mul_eq_zero.1 e with e | e <;> exact h3 e
      omega
    · have : y * y ≠ 0 := fun e => by rcases Int.mul_eq_zero.1 e with e | e <;> exact h2 e
      omega
  · have : x * x ≠ 0 := fun e => by rcases Int.mul_eq_zero.1 e with e | e <;> exact h1 e
    omega
theorem sameB_mul {k x y z : Int} (hk : 0 < k) (hs : rightB x y z = true) (hr : rightB (k * x) (k * y) (k * z) = true) : sameB x y z (k * x) (k * y) (k * z) = true := by
  have hp := sq_pos (rightB_iff.1 hs).2
  have hd : dot x y z (k * x) (k * y) (k * z) = k * dot x y z x y z := by unfold dot; grind
  have := Int.mul_pos hk hp
  unfold sameB
  rw [hs, hr, crW_zero, crW_zero, crW_zero, dotW_eq (A := 1000000) (B := 1000000) (withinB_iff.2 (rightB_iff.1 hs).1) (withinB_iff.2 (rightB_iff.1 hr).1) (by omega), hd]
  simp [zeroB, this]
theorem sameB_neg {k x y z : Int} (hk : 0 < k) : sameB x y z (-k * x) (-k * y) (-k * z) = false := by
  by_cases hs : rightB x y z = true
  · by_cases hr : rightB (-k * x) (-k * y) (-k * z) = true
    · have hp := sq_pos (rightB_iff.1 hs).2
      have hd : dot x y z (-k * x) (-k * y) (-k * z) = -(k * dot x y z x y z) := by unfold dot; grind
      have := Int.mul_pos hk hp
      have hn : ¬ 0 < dotW x y z (-k * x) (-k * y) (-k * z) := by
        rw [dotW_eq (A := 1000000) (B := 1000000) (withinB_iff.2 (rightB_iff.1 hs).1) (withinB_iff.2 (rightB_iff.1 hr).1) (by omega), hd]
        omega
      unfold sameB
      simp [hn]
    · unfold sameB; simp at hr; simp [hr]
  · unfold sameB; simp at hs; simp [hs]

/- the cosines -/
def sgn (n : Int) : Int := if n < 0 then -1 else if 0 < n then 1 else 0
def ordI (a b : Int) : Int := if a < b then -1 else if b < a then 1 else 0
def ssq (n : Int) : Int := if n < 0 then -n * n else n * n
def ssqW (n : Int) : Int := if n < 0 then wrap64 (wrap64 (-n) * n) else wrap64 (n * n)
def wideB (x y z : Int) : Bool := rightB x y z && withinB 1800 x y z
def smallB (x y z : Int) : Bool := rightB x y z && withinB 10 x y z
def cosI (a1 a2 a3 b1 b2 b3 c1 c2 c3 d1 d2 d3 : Int) : Int :=
  if wideB a1 a2 a3 && wideB b1 b2 b3 && smallB c1 c2 c3 && smallB d1 d2 d3 then
    ordI (ssq (dot a1 a2 a3 b1 b2 b3) * (dot c1 c2 c3 c1 c2 c3 * dot d1 d2 d3 d1 d2 d3)) (ssq (dot c1 c2 c3 d1 d2 d3) * (dot a1 a2 a3 a1 a2 a3 * dot b1 b2 b3 b1 b2 b3))
  else 0

theorem cosI_swap (a1 a2 a3 b1 b2 b3 c1 c2 c3 d1 d2 d3 : Int) : cosI b1 b2 b3 a1 a2 a3 c1 c2 c3 d1 d2 d3 = cosI a1 a2 a3 b1 b2 b3 c1 c2 c3 d1 d2 d3 := by
  unfold cosI
  rw [dot_comm b1 b2 b3 a1 a2 a3, Int.mul_comm (dot b1 b2 b3 b1 b2 b3), Bool.and_comm (wideB b1 b2 b3)]
theorem cosI_swap2 (a1 a2 a3 b1 b2 b3 c1 c2 c3 d1 d2 d3 : Int) : cosI a1 a2 a3 b1 b2 b3 d1 d2 d3 c1 c2 c3 = cosI a1 a2 a3 b1 b2 b3 c1 c2 c3 d1 d2 d3 := by
  unfold cosI
  rw [dot_comm d1 d2 d3 c1 c2 c3, Int.mul_comm (dot d1 d2 d3 d1 d2 d3), Bool.and_assoc (wideB a1 a2 a3 && wideB b1 b2 b3), Bool.and_comm (smallB d1 d2 d3), ← Bool.and_assoc]
theorem cosI_same {k x y z e1 e2 e3 : Int} (hk : 0 < k) : cosI (k * x) (k * y) (k * z) x y z e1 e2 e3 e1 e2 e3 = 0 := by
  unfold cosI
  split
  · rename_i h
    simp [wideB, smallB] at h
    have hp := sq_pos (rightB_iff.1 h.1.2.1).2
    have he := sq_pos (rightB_iff.1 h.2.1).2
    have hd : dot (k * x) (k * y) (k * z) x y z = k * dot x y z x y z := by unfold dot; grind
    have hd2 : dot (k * x) (k * y) (k * z) (k * x) (k * y) (k * z) = k * k * dot x y z x y z := by unfold dot; grind
    have hpos := Int.mul_pos hk hp
    have heq : ssq (dot (k * x) (k * y) (k * z) x y z) * (dot e1 e2 e3 e1 e2 e3 * dot e1 e2 e3 e1 e2 e3) = ssq (dot e1 e2 e3 e1 e2 e3) * (dot (k * x) (k * y) (k * z) (k * x) (k * y) (k * z) * dot x y z x y z) := by
      rw [hd, hd2]
      unfold ssq
      rw [if_neg (by omega), if_neg (by omega)]
      generalize dot x y z x y z = s
      generalize dot e1 e2 e3 e1 e2 e3 = e
      grind
    rw [heq]
    simp [ordI]
  · rfl

/- the program's own form of it -/
theorem cos_impl {a1 a2 a3 b1 b2 b3 c1 c2 c3 d1 d2 d3 : Int} (ha : withinB 1800 a1 a2 a3 = true) (hb : withinB 1800 b1 b2 b3 = true) (hc : withinB 10 c1 c2 c3 = true) (hd : withinB 10 d1 d2 d3 = true) :
    wrap64 (ssqW (dotW a1 a2 a3 b1 b2 b3) * wrap64 (dotW c1 c2 c3 c1 c2 c3 * dotW d1 d2 d3 d1 d2 d3)) = ssq (dot a1 a2 a3 b1 b2 b3) * (dot c1 c2 c3 c1 c2 c3 * dot d1 d2 d3 d1 d2 d3) ∧
    wrap64 (ssqW (dotW c1 c2 c3 d1 d2 d3) * wrap64 (dotW a1 a2 a3 a1 a2 a3 * dotW b1 b2 b3 b1 b2 b3)) = ssq (dot c1 c2 c3 d1 d2 d3) * (dot a1 a2 a3 a1 a2 a3 * dot b1 b2 b3 b1 b2 b3) := by
  rw [dotW_eq ha hb (by omega), dotW_eq hc hc (by omega), dotW_eq hd hd (by omega), dotW_eq hc hd (by omega), dotW_eq ha ha (by omega), dotW_eq hb hb (by omega)]
  have x1 := dot_bound ha hb
  have x2 := dot_bound hc hc
  have x3 := dot_bound hd hd
  have x4 := dot_bound hc hd
  have x5 := dot_bound ha ha
  have x6 := dot_bound hb hb
  generalize dot a1 a2 a3 b1 b2 b3 = p1 at *
  generalize dot c1 c2 c3 c1 c2 c3 = p2 at *
  generalize dot d1 d2 d3 d1 d2 d3 = p3 at *
  generalize dot c1 c2 c3 d1 d2 d3 = p4 at *
  generalize dot a1 a2 a3 a1 a2 a3 = p5 at *
  generalize dot b1 b2 b3 b1 b2 b3 = p6 at *
  have key : ∀ (p q r P Q : Int), (-P ≤ p ∧ p ≤ P) → (-Q ≤ q ∧ q ≤ Q) → (-Q ≤ r ∧ r ≤ Q) → P * P ≤ 9223372036854775807 → P ≤ 9223372036854775807 → Q * Q ≤ 9223372036854775807 → (P * P) * (Q * Q) ≤ 9223372036854775807 →
      wrap64 (ssqW p * wrap64 (q * r)) = ssq p * (q * r) := by
    intro p q r P Q h1 h2 h3 k1 k2 k3 k4
    have m1 := mulB h1 h1
    have m2 := mulB h2 h3
    have e : ssqW p = ssq p := by
      unfold ssqW ssq
      split
      · rw [wrap_id (n := -p) (by omega) (by omega)]
        have : -p * p = -(p * p) := by grind
        rw [wrap_id (by omega) (by omega)]
      · rw [wrap_id (by omega) (by omega)]
    have b : -(P * P) ≤ ssq p ∧ ssq p ≤ P * P := by
      unfold ssq
      have : -p * p = -(p * p) := by grind
      split <;> omega
    have m3 := mulB b m2
    rw [e, wrap_id (n := q * r) (by omega) (by omega), wrap_id (by omega) (by omega)]
  exact ⟨key p1 p2 p3 9720000 300 (by omega) (by omega) (by omega) (by omega) (by omega) (by omega) (by omega), key p4 p5 p6 300 9720000 (by omega) (by omega) (by omega) (by omega) (by omega) (by omega) (by omega)⟩

/- .. and the other form: the signs first, then the squares -/
theorem ordI_lt {a b : Int} (h : a < b) : ordI a b = -1 := by simp [ordI, h]
theorem ordI_gt {a b : Int} (h : b < a) : ordI a b = 1 := by unfold ordI; rw [if_neg (by omega), if_pos h]
theorem ssq_neg {x : Int} (h : x < 0) : ssq x = -(x * x) := by unfold ssq; rw [if_pos h]; grind
theorem ssq_pos {x : Int} (h : 0 ≤ x) : ssq x = x * x := by unfold ssq; rw [if_neg (by omega)]
theorem sgn_neg {x : Int} (h : x < 0) : sgn x = -1 := by simp [sgn, h]
theorem sgn_pos {x : Int} (h : 0 < x) : sgn x = 1 := by unfold sgn; rw [if_neg (by omega), if_pos h]
theorem sgn_zero : sgn 0 = 0 := by simp [sgn]
def cosS (x y p q : Int) : Int :=
  if sgn x ≠ sgn y then sgn (wrap64 (sgn x - sgn y)) else if p < q then wrap64 (-sgn x) else if q < p then sgn x else 0
theorem cos_spec {x y L M : Int} (hL : 0 < L) (hM : 0 < M) : cosS x y (x * x * L) (y * y * M) = ordI (ssq x * L) (ssq y * M) := by
  have sq : ∀ {x L : Int}, x ≠ 0 → 0 < L → 0 < x * x * L := fun {x L} h hL => by
    have h0 : 0 ≤ x * x := by rw [← Int.natAbs_mul_self' x]; exact Int.natCast_nonneg _
    have : x * x ≠ 0 := fun e => by rcases Int.mul_eq_zero.1 e with e | e <;> exact h e
    exact Int.mul_pos (by omega) hL
  have xL : x ≠ 0 → 0 < x * x * L := fun h => sq h hL
  have yM : y ≠ 0 → 0 < y * y * M := fun h => sq h hM
  have nx : -(x * x) * L = -(x * x * L) := by grind
  have ny : -(y * y) * M = -(y * y * M) := by grind
  have w1 : wrap64 (-1) = -1 := wrap_id (by omega) (by omega)
  have w2 : wrap64 (-2) = -2 := wrap_id (by omega) (by omega)
  have w3 : wrap64 1 = 1 := wrap_id (by omega) (by omega)
  have w4 : wrap64 2 = 2 := wrap_id (by omega) (by omega)
  have z0 : ssq 0 = 0 := by simp [ssq]
  unfold cosS
  rcases Int.lt_trichotomy x 0 with hx0 | hx0 | hx0 <;> rcases Int.lt_trichotomy y 0 with hy0 | hy0 | hy0
  · rw [sgn_neg hx0, sgn_neg hy0, ssq_neg hx0, ssq_neg hy0, nx, ny, if_neg (by simp), show (-(-1) : Int) = 1 from rfl, w3]
    unfold ordI
    split
    · rw [if_neg (by omega), if_pos (by omega)]
    · split
      · rw [if_pos (by omega)]
      · rw [if_neg (by omega), if_neg (by omega)]
  · subst hy0
    have := xL (by omega)
    rw [sgn_neg hx0, sgn_zero, ssq_neg hx0, z0, nx, ordI_lt (by omega), if_pos (by simp), show (-1 - 0 : Int) = -1 from rfl, w1, sgn_neg (by omega)]
  · have := xL (by omega)
    have := yM (by omega)
    rw [sgn_neg hx0, sgn_pos hy0, ssq_neg hx0, ssq_pos (by omega), nx, ordI_lt (by omega), if_pos (by simp), show (-1 - 1 : Int) = -2 from rfl, w2, sgn_neg (by omega)]
  · subst hx0
    have := yM (by omega)
    rw [sgn_neg hy0, sgn_zero, ssq_neg hy0, z0, ny, ordI_gt (by omega), if_pos (by simp), show (0 - -1 : Int) = 1 from rfl, w3, sgn_pos (by omega)]
  · subst hx0; subst hy0
    simp [ordI, ssq, sgn]
  · subst hx0
    have := yM (by omega)
    rw [sgn_pos hy0, sgn_zero, ssq_pos (x := y) (by omega), z0, ordI_lt (by omega), if_pos (by simp), show (0 - 1 : Int) = -1 from rfl, w1, sgn_neg (by omega)]
  · have := xL (by omega)
    have := yM (by omega)
    rw [sgn_pos hx0, sgn_neg hy0, ssq_neg hy0, ssq_pos (by omega), ny, ordI_gt (by omega), if_pos (by simp), show (1 - -1 : Int) = 2 from rfl, w4, sgn_pos (by omega)]
  · subst hy0
    have := xL (by omega)
    rw [sgn_pos hx0, sgn_zero, ssq_pos (x := x) (by omega), z0, ordI_gt (by omega), if_pos (by simp), show (1 - 0 : Int) = 1 from rfl, w3, sgn_pos (by omega)]
  · rw [sgn_pos hx0, sgn_pos hy0, ssq_pos (x := x) (by omega), ssq_pos (x := y) (by omega), if_neg (by simp), w1]
    rfl
end Go.Proofs.Ytackifnnhjbgbaa
