/- Several texts in one: VecMath, IdM, ObM, Plain, VecA, FrA, FrB, Bytes, FrC, BlM, RowV, BlA. -/
import Derived.WalkKit
import Derived.Laws.BitsAllLaws
import Derived.Test.YteoonaanoenjiaaGreatDoorChecked
import Derived.Below
import Derived.Laws.StructEq
import Derived.WalkLawsBesides
import Derived.Lib.QuietBelow
import Derived.Deep.QuietTactic
import Derived.BigQuiet
import Derived.Test.YteoonaanoenjiaaGreatDoorRows
import Derived.WalkSpells
import Derived.Lib.BufferWrite
import Derived.Lib.SlBytesRow
import Derived.Laws.BytesArg
import Derived.BigRegion
import Derived.OwnWalk
import Derived.Laws.OwnMore
namespace Go.Proofs.YteoonaanoenjiaaGreatDoor
open Go.RowKit
set_option linter.unusedVariables false
def inB (m x : Int) : Bool := decide (-m ≤ x ∧ x ≤ m)
def withinB (m x y z : Int) : Bool := inB m x && inB m y && inB m z
def zeroB (x y z : Int) : Bool := decide (x = 0 ∧ y = 0 ∧ z = 0)
def rightB (x y z : Int) : Bool := withinB 1000000 x y z && !zeroB x y z
theorem inB_iff {m x : Int} : inB m x = true ↔ -m ≤ x ∧ x ≤ m := by simp [inB]
theorem withinB_iff {m x y z : Int} : withinB m x y z = true ↔ (-m ≤ x ∧ x ≤ m) ∧ (-m ≤ y ∧ y ≤ m) ∧ (-m ≤ z ∧ z ≤ m) := by
  simp [withinB, inB_iff, and_assoc]
theorem rightB_iff {x y z : Int} : rightB x y z = true ↔ ((-1000000 ≤ x ∧ x ≤ 1000000) ∧ (-1000000 ≤ y ∧ y ≤ 1000000) ∧ (-1000000 ≤ z ∧ z ≤ 1000000)) ∧ ¬ (x = 0 ∧ y = 0 ∧ z = 0) := by
  unfold rightB
  rw [Bool.and_eq_true, withinB_iff]
  simp only [zeroB, Bool.not_eq_true', decide_eq_false_iff_not]
theorem wrap_id {n : Int} (h0 : -9223372036854775808 ≤ n) (h1 : n ≤ 9223372036854775807) : wrap64 n = n := by
  exact Go.IntWalk.wrap64_in n ⟨h0, h1⟩
theorem mulB {a b A B : Int} (h1 : -A ≤ a ∧ a ≤ A) (h3 : -B ≤ b ∧ b ≤ B) : -(A * B) ≤ a * b ∧ a * b ≤ A * B := by
  have h : (a * b).natAbs ≤ A.natAbs * B.natAbs := by
    rw [Int.natAbs_mul]; exact Nat.mul_le_mul (by omega) (by omega)
  have : ((A.natAbs * B.natAbs : Nat) : Int) = A * B := by
    rw [Int.natCast_mul, Int.natAbs_of_nonneg (by omega), Int.natAbs_of_nonneg (by omega)]
  omega
def dotW (a1 a2 a3 b1 b2 b3 : Int) : Int := wrap64 (wrap64 (wrap64 (a1 * b1) + wrap64 (a2 * b2)) + wrap64 (a3 * b3))
def dot (a1 a2 a3 b1 b2 b3 : Int) : Int := a1 * b1 + a2 * b2 + a3 * b3
def crW (a2 a3 b2 b3 : Int) : Int := wrap64 (wrap64 (a2 * b3) - wrap64 (a3 * b2))
theorem dotW_comm (a1 a2 a3 b1 b2 b3 : Int) : dotW a1 a2 a3 b1 b2 b3 = dotW b1 b2 b3 a1 a2 a3 := by
  unfold dotW; rw [Int.mul_comm a1, Int.mul_comm a2, Int.mul_comm a3]
theorem dot_bound {a1 a2 a3 b1 b2 b3 A B : Int} (ha : withinB A a1 a2 a3 = true) (hb : withinB B b1 b2 b3 = true) : -(3 * (A * B)) ≤ dot a1 a2 a3 b1 b2 b3 ∧ dot a1 a2 a3 b1 b2 b3 ≤ 3 * (A * B) := by
  rw [withinB_iff] at ha hb
  have h1 := mulB ha.1 hb.1
  have h2 := mulB ha.2.1 hb.2.1
  have h3 := mulB ha.2.2 hb.2.2
  unfold dot
  omega
theorem dotW_eq {a1 a2 a3 b1 b2 b3 A B : Int} (ha : withinB A a1 a2 a3 = true) (hb : withinB B b1 b2 b3 = true) (h : 3 * (A * B) ≤ 9223372036854775807) : dotW a1 a2 a3 b1 b2 b3 = dot a1 a2 a3 b1 b2 b3 := by
  rw [withinB_iff] at ha hb
  have h1 := mulB ha.1 hb.1
  have h2 := mulB ha.2.1 hb.2.1
  have h3 := mulB ha.2.2 hb.2.2
  unfold dotW dot
  rw [wrap_id (n := a1 * b1) (by omega) (by omega), wrap_id (n := a2 * b2) (by omega) (by omega), wrap_id (n := a3 * b3) (by omega) (by omega), wrap_id (n := a1 * b1 + a2 * b2) (by omega) (by omega), wrap_id (by omega) (by omega)]
theorem crW_eq {a2 a3 b2 b3 A B : Int} (h2 : -A ≤ a2 ∧ a2 ≤ A) (h3 : -A ≤ a3 ∧ a3 ≤ A) (k2 : -B ≤ b2 ∧ b2 ≤ B) (k3 : -B ≤ b3 ∧ b3 ≤ B) (h : 2 * (A * B) ≤ 9223372036854775807) :
    crW a2 a3 b2 b3 = a2 * b3 - a3 * b2 ∧ -(2 * (A * B)) ≤ a2 * b3 - a3 * b2 ∧ a2 * b3 - a3 * b2 ≤ 2 * (A * B) := by
  have h1 := mulB h2 k3
  have h2 := mulB h3 k2
  unfold crW
  rw [wrap_id (n := a2 * b3) (by omega) (by omega), wrap_id (n := a3 * b2) (by omega) (by omega), wrap_id (by omega) (by omega)]
  omega
def dotI (a1 a2 a3 b1 b2 b3 : Int) : Int := if rightB a1 a2 a3 && rightB b1 b2 b3 then dotW a1 a2 a3 b1 b2 b3 else 0
def crI (r : Bool) (a2 a3 b2 b3 : Int) : Int := if r then crW a2 a3 b2 b3 else 0
def detI (a1 a2 a3 b1 b2 b3 c1 c2 c3 : Int) : Int :=
  if rightB a1 a2 a3 && rightB b1 b2 b3 && rightB c1 c2 c3 then dotW (crW a2 a3 b2 b3) (crW a3 a1 b3 b1) (crW a1 a2 b1 b2) c1 c2 c3 else 0
def gI (x y z : Int) : Int := ((Int.gcd (Int.gcd x y : Int) z : Nat) : Int)
def prI (r : Bool) (g x : Int) : Int := if r then wrap64 (x.tdiv g) else 0
def sameB (a1 a2 a3 b1 b2 b3 : Int) : Bool :=
  rightB a1 a2 a3 && rightB b1 b2 b3 && zeroB (crW a2 a3 b2 b3) (crW a3 a1 b3 b1) (crW a1 a2 b1 b2) && decide (0 < dotW a1 a2 a3 b1 b2 b3)
theorem gcd_step (a b : Int) : Int.gcd b (a.tmod b) = Int.gcd a b := by
  show Nat.gcd b.natAbs (a.tmod b).natAbs = Nat.gcd a.natAbs b.natAbs
  rw [Int.natAbs_tmod, Nat.gcd_comm b.natAbs, ← Nat.gcd_rec, Nat.gcd_comm]
theorem gcd_zero (a : Int) : ((Int.gcd a 0 : Nat) : Int) = if a < 0 then -a else a := by
  rw [Int.gcd_zero_right]
  split <;> omega
theorem tmod_lt (a b : Int) (h : b ≠ 0) : (a.tmod b).natAbs < b.natAbs := by
  rw [Int.natAbs_tmod]; exact Nat.mod_lt _ (by omega)
theorem gcd_le {a b m : Int} (ha : -m ≤ a ∧ a ≤ m) (hb : -m ≤ b ∧ b ≤ m) : 0 ≤ ((Int.gcd a b : Nat) : Int) ∧ ((Int.gcd a b : Nat) : Int) ≤ m := by
  refine ⟨by omega, ?_⟩
  by_cases h : a = 0
  · subst h; rw [Int.gcd_zero_left]; omega
  · have := Nat.le_of_dvd (by omega) (Nat.gcd_dvd_left a.natAbs b.natAbs)
    have e : Int.gcd a b = Nat.gcd a.natAbs b.natAbs := rfl
    omega
theorem gcd_three (x y z : Int) : ((Int.gcd ((Int.gcd ((Int.gcd 0 x : Nat) : Int) y : Nat) : Int) z : Nat) : Int) = gI x y z := by
  unfold gI
  have : Int.gcd ((Int.gcd 0 x : Nat) : Int) y = Int.gcd x y := by
    rw [Int.gcd_zero_left]
    show Nat.gcd (x.natAbs : Int).natAbs y.natAbs = Nat.gcd x.natAbs y.natAbs
    rw [Int.natAbs_natCast]
  rw [this]
theorem gI_pos {x y z : Int} (h : rightB x y z = true) : 0 < gI x y z := by
  rw [rightB_iff] at h
  unfold gI
  have h2 : Int.gcd ((Int.gcd x y : Nat) : Int) z ≠ 0 := by
    intro e
    rw [Int.gcd_eq_zero_iff] at e
    have e1 : Int.gcd x y = 0 := by omega
    rw [Int.gcd_eq_zero_iff] at e1
    exact h.2 ⟨e1.1, e1.2, e.2⟩
  omega
theorem sq_pos {x y z : Int} (h : ¬ (x = 0 ∧ y = 0 ∧ z = 0)) : 0 < dot x y z x y z := by
  unfold dot
  have hx : 0 ≤ x * x := by rw [← Int.natAbs_mul_self' x]; exact Int.natCast_nonneg _
  have hy : 0 ≤ y * y := by rw [← Int.natAbs_mul_self' y]; exact Int.natCast_nonneg _
  have hz : 0 ≤ z * z := by rw [← Int.natAbs_mul_self' z]; exact Int.natCast_nonneg _
  by_cases h1 : x = 0
  · by_cases h2 : y = 0
    · have h3 : z ≠ 0 := fun e => h ⟨h1, h2, e⟩
      have : z * z ≠ 0 := fun e => by rcases Int.mul_eq_zero.1 e with e | e <;> exact h3 e
      omega
    · have : y * y ≠ 0 := fun e => by rcases Int.mul_eq_zero.1 e with e | e <;> exact h2 e
      omega
  · have : x * x ≠ 0 := fun e => by rcases Int.mul_eq_zero.1 e with e | e <;> exact h1 e
    omega
def sgn (n : Int) : Int := if n < 0 then -1 else if 0 < n then 1 else 0
def ordI (a b : Int) : Int := if a < b then -1 else if b < a then 1 else 0
def ssq (n : Int) : Int := if n < 0 then -n * n else n * n
def ssqW (n : Int) : Int := if n < 0 then wrap64 (wrap64 (-n) * n) else wrap64 (n * n)
def wideB (x y z : Int) : Bool := rightB x y z && withinB 1800 x y z
def smallB (x y z : Int) : Bool := rightB x y z && withinB 10 x y z
def cosI (a1 a2 a3 b1 b2 b3 c1 c2 c3 d1 d2 d3 : Int) : Int :=
  if wideB a1 a2 a3 && wideB b1 b2 b3 && smallB c1 c2 c3 && smallB d1 d2 d3 then
    ordI (ssq (dot a1 a2 a3 b1 b2 b3) * (dot c1 c2 c3 c1 c2 c3 * dot d1 d2 d3 d1 d2 d3)) (ssq (dot c1 c2 c3 d1 d2 d3) * (dot a1 a2 a3 a1 a2 a3 * dot b1 b2 b3 b1 b2 b3))
  else 0
theorem cos_impl {a1 a2 a3 b1 b2 b3 c1 c2 c3 d1 d2 d3 : Int} (ha : withinB 1800 a1 a2 a3 = true) (hb : withinB 1800 b1 b2 b3 = true) (hc : withinB 10 c1 c2 c3 = true) (hd : withinB 10 d1 d2 d3 = true) :
    wrap64 (ssqW (dotW a1 a2 a3 b1 b2 b3) * wrap64 (dotW c1 c2 c3 c1 c2 c3 * dotW d1 d2 d3 d1 d2 d3)) = ssq (dot a1 a2 a3 b1 b2 b3) * (dot c1 c2 c3 c1 c2 c3 * dot d1 d2 d3 d1 d2 d3) ∧
    wrap64 (ssqW (dotW c1 c2 c3 d1 d2 d3) * wrap64 (dotW a1 a2 a3 a1 a2 a3 * dotW b1 b2 b3 b1 b2 b3)) = ssq (dot c1 c2 c3 d1 d2 d3) * (dot a1 a2 a3 a1 a2 a3 * dot b1 b2 b3 b1 b2 b3) := by
  rw [dotW_eq ha hb (by omega), dotW_eq hc hc (by omega), dotW_eq hd hd (by omega), dotW_eq hc hd (by omega), dotW_eq ha ha (by omega), dotW_eq hb hb (by omega)]
  have x1 := dot_bound ha hb
  have x2 := dot_bound hc hc
  have x3 := dot_bound hd hd
  have x4 := dot_bound hc hd
  have x5 := dot_bound ha ha
  have x6 := dot_bound hb hb
  generalize dot a1 a2 a3 b1 b2 b3 = p1 at *
  generalize dot c1 c2 c3 c1 c2 c3 = p2 at *
  generalize dot d1 d2 d3 d1 d2 d3 = p3 at *
  generalize dot c1 c2 c3 d1 d2 d3 = p4 at *
  generalize dot a1 a2 a3 a1 a2 a3 = p5 at *
  generalize dot b1 b2 b3 b1 b2 b3 = p6 at *
  have key : ∀ (p q r P Q : Int), (-P ≤ p ∧ p ≤ P) → (-Q ≤ q ∧ q ≤ Q) → (-Q ≤ r ∧ r ≤ Q) → P * P ≤ 9223372036854775807 → P ≤ 9223372036854775807 → Q * Q ≤ 9223372036854775807 → (P * P) * (Q * Q) ≤ 9223372036854775807 →
      wrap64 (ssqW p * wrap64 (q * r)) = ssq p * (q * r) := by
    intro p q r P Q h1 h2 h3 k1 k2 k3 k4
    have m1 := mulB h1 h1
    have m2 := mulB h2 h3
    have e : ssqW p = ssq p := by
      unfold ssqW ssq
      split
      · rw [wrap_id (n := -p) (by omega) (by omega)]
        have : -p * p = -(p * p) := by grind
        rw [wrap_id (by omega) (by omega)]
      · rw [wrap_id (by omega) (by omega)]
    have b : -(P * P) ≤ ssq p ∧ ssq p ≤ P * P := by
      unfold ssq
      have : -p * p = -(p * p) := by grind
      split <;> omega
    have m3 := mulB b m2
    rw [e, wrap_id (n := q * r) (by omega) (by omega), wrap_id (by omega) (by omega)]
  exact ⟨key p1 p2 p3 9720000 300 (by omega) (by omega) (by omega) (by omega) (by omega) (by omega) (by omega), key p4 p5 p6 300 9720000 (by omega) (by omega) (by omega) (by omega) (by omega) (by omega) (by omega)⟩
theorem ordI_lt {a b : Int} (h : a < b) : ordI a b = -1 := by simp [ordI, h]
theorem ordI_gt {a b : Int} (h : b < a) : ordI a b = 1 := by unfold ordI; rw [if_neg (by omega), if_pos h]
theorem ssq_neg {x : Int} (h : x < 0) : ssq x = -(x * x) := by unfold ssq; rw [if_pos h]; grind
theorem ssq_pos {x : Int} (h : 0 ≤ x) : ssq x = x * x := by unfold ssq; rw [if_neg (by omega)]
theorem sgn_neg {x : Int} (h : x < 0) : sgn x = -1 := by simp [sgn, h]
theorem sgn_pos {x : Int} (h : 0 < x) : sgn x = 1 := by unfold sgn; rw [if_neg (by omega), if_pos h]
theorem sgn_zero : sgn 0 = 0 := by simp [sgn]
def cosS (x y p q : Int) : Int :=
  if sgn x ≠ sgn y then sgn (wrap64 (sgn x - sgn y)) else if p < q then wrap64 (-sgn x) else if q < p then sgn x else 0
theorem cos_spec {x y L M : Int} (hL : 0 < L) (hM : 0 < M) : cosS x y (x * x * L) (y * y * M) = ordI (ssq x * L) (ssq y * M) := by
  have sq : ∀ {x L : Int}, x ≠ 0 → 0 < L → 0 < x * x * L := fun {x L} h hL => by
    have h0 : 0 ≤ x * x := by rw [← Int.natAbs_mul_self' x]; exact Int.natCast_nonneg _
    have : x * x ≠ 0 := fun e => by rcases Int.mul_eq_zero.1 e with e | e <;> exact h e
    exact Int.mul_pos (by omega) hL
  have xL : x ≠ 0 → 0 < x * x * L := fun h => sq h hL
  have yM : y ≠ 0 → 0 < y * y * M := fun h => sq h hM
  have nx : -(x * x) * L = -(x * x * L) := by grind
  have ny : -(y * y) * M = -(y * y * M) := by grind
  have w1 : wrap64 (-1) = -1 := wrap_id (by omega) (by omega)
  have w2 : wrap64 (-2) = -2 := wrap_id (by omega) (by omega)
  have w3 : wrap64 1 = 1 := wrap_id (by omega) (by omega)
  have w4 : wrap64 2 = 2 := wrap_id (by omega) (by omega)
  have z0 : ssq 0 = 0 := by simp [ssq]
  unfold cosS
  rcases Int.lt_trichotomy x 0 with hx0 | hx0 | hx0 <;> rcases Int.lt_trichotomy y 0 with hy0 | hy0 | hy0
  · rw [sgn_neg hx0, sgn_neg hy0, ssq_neg hx0, ssq_neg hy0, nx, ny, if_neg (by simp), show (-(-1) : Int) = 1 from rfl, w3]
    unfold ordI
    split
    · rw [if_neg (by omega), if_pos (by omega)]
    · split
      · rw [if_pos (by omega)]
      · rw [if_neg (by omega), if_neg (by omega)]
  · subst hy0
    have := xL (by omega)
    rw [sgn_neg hx0, sgn_zero, ssq_neg hx0, z0, nx, ordI_lt (by omega), if_pos (by simp), show (-1 - 0 : Int) = -1 from rfl, w1, sgn_neg (by omega)]
  · have := xL (by omega)
    have := yM (by omega)
    rw [sgn_neg hx0, sgn_pos hy0, ssq_neg hx0, ssq_pos (by omega), nx, ordI_lt (by omega), if_pos (by simp), show (-1 - 1 : Int) = -2 from rfl, w2, sgn_neg (by omega)]
  · subst hx0
    have := yM (by omega)
    rw [sgn_neg hy0, sgn_zero, ssq_neg hy0, z0, ny, ordI_gt (by omega), if_pos (by simp), show (0 - -1 : Int) = 1 from rfl, w3, sgn_pos (by omega)]
  · subst hx0; subst hy0
    simp [ordI, ssq, sgn]
  · subst hx0
    have := yM (by omega)
    rw [sgn_pos hy0, sgn_zero, ssq_pos (x := y) (by omega), z0, ordI_lt (by omega), if_pos (by simp), show (0 - 1 : Int) = -1 from rfl, w1, sgn_neg (by omega)]
  · have := xL (by omega)
    have := yM (by omega)
    rw [sgn_pos hx0, sgn_neg hy0, ssq_neg hy0, ssq_pos (by omega), ny, ordI_gt (by omega), if_pos (by simp), show (1 - -1 : Int) = 2 from rfl, w4, sgn_pos (by omega)]
  · subst hy0
    have := xL (by omega)
    rw [sgn_pos hx0, sgn_zero, ssq_pos (x := x) (by omega), z0, ordI_gt (by omega), if_pos (by simp), show (1 - 0 : Int) = 1 from rfl, w3, sgn_pos (by omega)]
  · rw [sgn_pos hx0, sgn_pos hy0, ssq_pos (x := x) (by omega), ssq_pos (x := y) (by omega), if_neg (by simp), w1]
    rfl
abbrev D3 := Int × Int × Int
def vA (L : List D3) (i : Nat) : D3 := L.getD i (0, 0, 0)
def wideD (v : D3) : Bool := wideB v.1 v.2.1 v.2.2
def sameD (p q : D3) : Bool := sameB p.1 p.2.1 p.2.2 q.1 q.2.1 q.2.2
def amongB (L : List D3) (v : D3) (n : Nat) : Bool := (List.range n).any fun j => sameD v (vA L j)
def asideTo (L : List D3) (v : D3) (k : Nat) : Prop := ∀ j, j < k → sameD v (vA L j) = false
def okV (L : List D3) (i : Nat) : Bool := wideD (vA L i) && !amongB L (vA L i) i
def okVTo (L : List D3) (k : Nat) : Prop := ∀ j, j < k → okV L j = true
def spotsB (L : List D3) : Bool := decide (L.length ≤ 6) && (List.range L.length).all (okV L)
theorem among_no {L : List D3} {v : D3} {n : Nat} (h : asideTo L v n) : amongB L v n = false := by
  unfold amongB
  rw [List.any_eq_false]
  intro j hj
  rw [h j (List.mem_range.1 hj)]
  simp
theorem among_yes {L : List D3} {v : D3} {n j : Nat} (hj : j < n) (h : sameD v (vA L j) = true) : amongB L v n = true := by
  unfold amongB
  rw [List.any_eq_true]
  exact ⟨j, List.mem_range.2 hj, h⟩
theorem aside_step {L : List D3} {v : D3} {k : Nat} (h : asideTo L v k) (h1 : sameD v (vA L k) = false) : asideTo L v (k + 1) := by
  intro j hj
  by_cases e : j = k
  · rw [e]; exact h1
  · exact h j (by omega)
theorem okV_step {L : List D3} {k : Nat} (h : okVTo L k) (h1 : okV L k = true) : okVTo L (k + 1) := by
  intro j hj
  by_cases e : j = k
  · rw [e]; exact h1
  · exact h j (by omega)
theorem spots_yes {L : List D3} (hl : L.length ≤ 6) (h : okVTo L L.length) : spotsB L = true := by
  unfold spotsB
  rw [Bool.and_eq_true, List.all_eq_true]
  exact ⟨by simpa using hl, fun j hj => h j (List.mem_range.1 hj)⟩
theorem spots_no {L : List D3} {k : Nat} (hk : k < L.length) (h : okV L k = false) : spotsB L = false := by
  unfold spotsB
  have : (List.range L.length).all (okV L) = false := by
    rw [List.all_eq_false]
    exact ⟨k, List.mem_range.2 hk, by rw [h]; simp⟩
  rw [this, Bool.and_false]
theorem spots_long {L : List D3} (hl : 6 < L.length) : spotsB L = false := by
  unfold spotsB
  rw [show decide (L.length ≤ 6) = false by simp; omega, Bool.false_and]
theorem spots_ok {L : List D3} (h : spotsB L = true) : L.length ≤ 6 ∧ okVTo L L.length := by
  unfold spotsB at h
  rw [Bool.and_eq_true, List.all_eq_true] at h
  exact ⟨by simpa using h.1, fun j hj => h.2 j (List.mem_range.2 hj)⟩
theorem okV_wide {L : List D3} {i : Nat} (h : okV L i = true) : wideD (vA L i) = true := by
  unfold okV at h
  rw [Bool.and_eq_true] at h
  exact h.1
theorem wide_iff {x y z : Int} (h : wideB x y z = true) : rightB x y z = true ∧ withinB 1800 x y z = true := by simpa [wideB] using h
theorem same_turned {a1 a2 a3 b1 b2 b3 : Int} (ra : rightB a1 a2 a3 = true) (rb : rightB b1 b2 b3 = true) : sameB a1 a2 a3 b1 b2 b3 = sameB b1 b2 b3 a1 a2 a3 := by
  obtain ⟨⟨x1, x2, x3⟩, _⟩ := rightB_iff.1 ra
  obtain ⟨⟨y1, y2, y3⟩, _⟩ := rightB_iff.1 rb
  have e1 := crW_eq x2 x3 y2 y3 (by omega)
  have e2 := crW_eq x3 x1 y3 y1 (by omega)
  have e3 := crW_eq x1 x2 y1 y2 (by omega)
  have f1 := crW_eq y2 y3 x2 x3 (by omega)
  have f2 := crW_eq y3 y1 x3 x1 (by omega)
  have f3 := crW_eq y1 y2 x1 x2 (by omega)
  unfold sameB
  rw [ra, rb, e1.1, e2.1, e3.1, f1.1, f2.1, f3.1, dotW_comm]
  congr 2
  unfold zeroB
  rw [Int.mul_comm b2, Int.mul_comm b3 a2, Int.mul_comm b3 a1, Int.mul_comm b1 a3, Int.mul_comm b1 a2, Int.mul_comm b2 a1]
  congr 1
  apply propext
  constructor <;> rintro ⟨h1, h2, h3⟩ <;> exact ⟨by omega, by omega, by omega⟩
theorem sameD_turned {p q : D3} (hp : wideD p = true) (hq : wideD q = true) : sameD p q = sameD q p := same_turned (wide_iff hp).1 (wide_iff hq).1
def fewTo (L : List D3) : Nat → List D3
  | 0 => []
  | i + 1 => if (fewTo L i).length < 6 ∧ amongB (fewTo L i) (vA L i) (fewTo L i).length = false then fewTo L i ++ [vA L i] else fewTo L i
def fewS (L : List D3) : List D3 := fewTo L L.length
theorem few_add {L : List D3} {i : Nat} (h : (fewTo L i).length < 6) (ha : amongB (fewTo L i) (vA L i) (fewTo L i).length = false) : fewTo L (i + 1) = fewTo L i ++ [vA L i] := by
  show (if _ then _ else _) = _
  rw [if_pos ⟨h, ha⟩]
theorem few_same {L : List D3} {i : Nat} (ha : amongB (fewTo L i) (vA L i) (fewTo L i).length = true) : fewTo L (i + 1) = fewTo L i := by
  show (if _ then _ else _) = _
  rw [if_neg (fun h => by rw [h.2] at ha; cases ha)]
theorem few_full {L : List D3} {i : Nat} (h : ¬ (fewTo L i).length < 6) : fewTo L (i + 1) = fewTo L i := by
  show (if _ then _ else _) = _
  rw [if_neg (fun hh => h hh.1)]
theorem few_len (L : List D3) : ∀ i, (fewTo L i).length ≤ 6 ∧ (fewTo L i).length ≤ i
  | 0 => by simp [fewTo]
  | i + 1 => by
    have ih := few_len L i
    unfold fewTo
    split
    · rename_i h
      have := h.1
      simp
      omega
    · omega
theorem few_stop {L : List D3} {i : Nat} (h : ¬ (fewTo L i).length < 6) : ∀ j, i ≤ j → fewTo L j = fewTo L i
  | 0, hj => by
    have : i = 0 := by omega
    rw [this]
  | j + 1, hj => by
    by_cases e : i = j + 1
    · rw [e]
    · have ih := few_stop h j (by omega)
      rw [few_full (by rw [ih]; exact h), ih]
theorem vA_few_app {K : List D3} {x : D3} {k : Nat} (hk : k < K.length) : vA (K ++ [x]) k = vA K k := by
  unfold vA
  rw [List.getD_eq_getElem?_getD, List.getD_eq_getElem?_getD, List.getElem?_append_left hk]
theorem vA_few_last {K : List D3} {x : D3} : vA (K ++ [x]) K.length = x := by
  unfold vA
  rw [List.getD_eq_getElem?_getD, List.getElem?_append_right (Nat.le_refl _)]
  simp
theorem few_of (L : List D3) : ∀ i k, k < (fewTo L i).length → ∃ j, j < i ∧ vA (fewTo L i) k = vA L j
  | 0, k, h => by simp [fewTo] at h
  | i + 1, k, h => by
    by_cases hc : (fewTo L i).length < 6 ∧ amongB (fewTo L i) (vA L i) (fewTo L i).length = false
    · rw [few_add hc.1 hc.2] at h ⊢
      by_cases hk : k < (fewTo L i).length
      · obtain ⟨j, hj, e⟩ := few_of L i k hk
        exact ⟨j, by omega, by rw [vA_few_app hk]; exact e⟩
      · have : k = (fewTo L i).length := by simp at h; omega
        subst this
        exact ⟨i, by omega, vA_few_last⟩
    · have e : fewTo L (i + 1) = fewTo L i := by
        show (if _ then _ else _) = _
        rw [if_neg hc]
      rw [e] at h ⊢
      obtain ⟨j, hj, e2⟩ := few_of L i k h
      exact ⟨j, by omega, e2⟩
end Go.Proofs.YteoonaanoenjiaaGreatDoor
namespace Go.Proofs.YteoonaanoenjiaaGreatDoor
open Go.RowKit
theorem yz {p : Prop} (h : p) : Hid p := h
theorem yx {p : Prop} (h : Hid p) : p := h
def step (r : Nat) : Nat := if r % 2 = 1 then (r / 2) ^^^ 3988292384 else r / 2
def byteN (s : ByteArray) (i : Nat) : Nat := if h : i < s.size then s[i].toNat else 0
theorem byteN_lt {s : ByteArray} {k : Nat} (h : k < s.size) : byteN s k = s[k].toNat := by simp [byteN, h]
end Go.Proofs.YteoonaanoenjiaaGreatDoor
namespace Go.Proofs.YteoonaanoenjiaaGreatDoor
open Go.RowKit
set_option linter.unusedVariables false
theorem below1 (w : World) (a : Obj) : Below w.heap.size w (w.alloc a) := (Below.refl _ _).alloc (Nat.le_refl _) _
theorem below2 (w : World) (a b : Obj) : Below w.heap.size w ((w.alloc a).alloc b) := (below1 w a).alloc (by simp) _
theorem below3 (w : World) (a b c : Obj) : Below w.heap.size w (((w.alloc a).alloc b).alloc c) := (below2 w a b).alloc (by simp; omega) _
theorem below_call {w w1 w2 : World} (h : Below w.heap.size w w1) (h2 : Below w1.heap.size w1 w2) : Below w.heap.size w w2 := h.trans (h2.mono h.size)
set_option maxRecDepth 100000 in
theorem parts_any (x y z : Int) (w : World) :
    Calls Tryz.prog 191 #[.agg #[.int .i64 x, .int .i64 y, .int .i64 z]] w fun e w' => e = .returned (.agg #[.int .i64 x, .int .i64 y, .int .i64 z]) ∧ Below w.heap.size w w' := by
  go_enter Tryz.func191, Tryz.ntmps191
  go_wp2
  exact bodyPost_ret (v := .agg #[.int .i64 x, .int .i64 y, .int .i64 z]) (by simp [results, Tryz.results191, go_sem]) rfl ⟨rfl, below2 _ _ _⟩
set_option maxRecDepth 100000 in
theorem times_any (a1 a2 a3 b1 b2 b3 : Int) (w : World) :
    Calls Tryz.prog 213 #[.agg #[.int .i64 a1, .int .i64 a2, .int .i64 a3], .agg #[.int .i64 b1, .int .i64 b2, .int .i64 b3]] w fun e w' => e = .returned (.int .i64 (dotW a1 a2 a3 b1 b2 b3)) ∧ Below w.heap.size w w' := by
  go_enter Tryz.func213, Tryz.ntmps213
  go_wp2
  go_ret
  exact ⟨rfl, below2 _ _ _⟩
set_option maxRecDepth 100000 in
theorem l02Dot_any (a1 a2 a3 b1 b2 b3 : Int) (w : World) :
    Calls Tryz.prog 139 #[.agg #[.int .i64 a1, .int .i64 a2, .int .i64 a3], .agg #[.int .i64 b1, .int .i64 b2, .int .i64 b3]] w fun e w' => e = .returned (.int .i64 (dotW a1 a2 a3 b1 b2 b3)) ∧ Below w.heap.size w w' := by
  go_enter Tryz.func139, Tryz.ntmps139
  go_wp2
  go_ret
  exact ⟨rfl, below2 _ _ _⟩
set_option maxRecDepth 100000 in
theorem l02Is_any (n lo hi : Int) (w : World) :
    Calls Tryz.prog 57 #[.int .i64 n, .int .i64 lo, .int .i64 hi] w fun e w' => e = .returned (.bool (decide (lo ≤ n) && decide (n ≤ hi))) ∧ w' = w := by
  by_cases h : lo ≤ n
  · go_enter Tryz.func57, Tryz.ntmps57
    go_wp2
    go_ret
    exact ⟨by simp [h], rfl⟩
  · go_enter Tryz.func57, Tryz.ntmps57
    go_wp2
    go_ret
    exact ⟨by simp; omega, rfl⟩
end Go.Proofs.YteoonaanoenjiaaGreatDoor
namespace Go.Proofs.YteoonaanoenjiaaGreatDoor
open Go.RowKit Go.Sort
set_option linter.unusedVariables false
def frameB (wd ht : Int) (s : ByteArray) : Bool := decide (1 ≤ wd) && decide (wd ≤ 16) && decide (1 ≤ ht) && decide (ht ≤ 12) && decide ((s.size : Int) = wd * ht)
def goodB (ar : Int) (ed : Bool) (lo hi : Int) : Bool := decide (lo ≤ ar) && decide (ar ≤ hi) && !ed
theorem frameB_iff {wd ht : Int} {s : ByteArray} : frameB wd ht s = true ↔ (1 ≤ wd ∧ wd ≤ 16 ∧ 1 ≤ ht ∧ ht ≤ 12 ∧ (s.size : Int) = wd * ht) := by
  unfold frameB
  simp only [Bool.and_eq_true, decide_eq_true_eq, and_assoc]
theorem good_yes {ar lo hi : Int} {ed : Bool} (h1 : lo ≤ ar) (h2 : ar ≤ hi) : goodB ar ed lo hi = !ed := by unfold goodB; simp [h1, h2]
theorem good_no {ar lo hi : Int} {ed : Bool} (h : ar < lo ∨ hi < ar) : goodB ar ed lo hi = false := by
  unfold goodB
  rcases h with h | h
  · rw [show decide (lo ≤ ar) = false by simp; omega]; rfl
  · rw [show decide (ar ≤ hi) = false by simp; omega]; simp
theorem frame_no {wd ht : Int} {s : ByteArray} (h : wd < 1 ∨ 16 < wd ∨ ht < 1 ∨ 12 < ht) : frameB wd ht s = false := by
  cases e : frameB wd ht s
  · rfl
  · have := frameB_iff.1 e; omega
set_option maxRecDepth 100000 in
theorem specFrameRight_any (wd ht : Int) (s : ByteArray) (w : World) :
    Calls Tryz.prog 61 #[.agg #[.int .i64 wd, .int .i64 ht, .string s]] w fun e w' => e = .returned (.bool (frameB wd ht s)) ∧ Below w.heap.size w w' := by
  go_enter Tryz.func61, Tryz.ntmps61
  go_wp2_with fail
  refine (l02Is_any wd 1 16 _).mono ?_
  rintro e w1 ⟨rfl, rfl⟩
  by_cases h1 : 1 ≤ wd ∧ wd ≤ 16
  · have e1 : (decide (1 ≤ wd) && decide (wd ≤ 16)) = true := by simp [h1]
    rw [e1]
    go_wp2_with fail
    refine (l02Is_any ht 1 12 _).mono ?_
    rintro e w1 ⟨rfl, rfl⟩
    by_cases h2 : 1 ≤ ht ∧ ht ≤ 12
    · have e2 : (decide (1 ≤ ht) && decide (ht ≤ 12)) = true := by simp [h2]
      rw [e2]
      obtain ⟨a1, a2⟩ := h1
      obtain ⟨a3, a4⟩ := h2
      have hm : wrap64 (wd * ht) = wd * ht := by
        have h0 := Int.mul_nonneg (show 0 ≤ wd by omega) (show 0 ≤ ht by omega)
        have h1 := Int.mul_le_mul a2 a4 (by omega) (by omega)
        exact wrap_id (by omega) (by omega)
      have HF : Hid (frameB wd ht s = decide ((s.size : Int) = wd * ht)) := yz (by unfold frameB; simp [a1, a2, a3, a4])
      clear e1 e2
      go_wp2_with fail
      go_ret
      exact ⟨by rw [yx HF]; rfl, below1 _ _⟩
    · have e2 : (decide (1 ≤ ht) && decide (ht ≤ 12)) = false := by simp; omega
      rw [e2]
      go_wp2_with fail
      go_ret
      exact ⟨by rw [frame_no (by omega)]; rfl, below1 _ _⟩
  · have e1 : (decide (1 ≤ wd) && decide (wd ≤ 16)) = false := by simp; omega
    rw [e1]
    go_wp2_with fail
    go_ret
    exact ⟨by rw [frame_no (by omega)]; rfl, below1 _ _⟩
set_option maxRecDepth 100000 in
theorem frameRight_any (wd ht : Int) (s : ByteArray) (w : World) :
    Calls Tryz.prog 76 #[.agg #[.int .i64 wd, .int .i64 ht, .string s]] w fun e w' => e = .returned (.bool (frameB wd ht s)) ∧ Below w.heap.size w w' := by
  by_cases h1 : wd < 1
  · go_enter Tryz.func76, Tryz.ntmps76
    go_wp2_with fail
    go_ret
    exact ⟨by rw [frame_no (by omega)]; rfl, below1 _ _⟩
  by_cases h2 : 16 < wd
  · go_enter Tryz.func76, Tryz.ntmps76
    go_wp2_with fail
    go_ret
    exact ⟨by rw [frame_no (by omega)]; rfl, below1 _ _⟩
  by_cases h3 : ht < 1
  · go_enter Tryz.func76, Tryz.ntmps76
    go_wp2_with fail
    go_ret
    exact ⟨by rw [frame_no (by omega)]; rfl, below1 _ _⟩
  by_cases h4 : 12 < ht
  · go_enter Tryz.func76, Tryz.ntmps76
    go_wp2_with fail
    go_ret
    exact ⟨by rw [frame_no (by omega)]; rfl, below1 _ _⟩
  have hm : wrap64 (wd * ht) = wd * ht := by
    have h0 := Int.mul_nonneg (show 0 ≤ wd by omega) (show 0 ≤ ht by omega)
    have h1 := Int.mul_le_mul (show wd ≤ 16 by omega) (show ht ≤ 12 by omega) (by omega) (by omega)
    exact wrap_id (by omega) (by omega)
  have HF : Hid (frameB wd ht s = decide ((s.size : Int) = wd * ht)) := yz (by
    unfold frameB
    rw [show decide (1 ≤ wd) = true by simp; omega, show decide (wd ≤ 16) = true by simp; omega, show decide (1 ≤ ht) = true by simp; omega, show decide (ht ≤ 12) = true by simp; omega]
    rfl)
  go_enter Tryz.func76, Tryz.ntmps76
  go_wp2_with fail
  go_ret
  exact ⟨by rw [yx HF]; rfl, below1 _ _⟩
set_option maxRecDepth 100000 in
theorem specBlobGood_any (ar su sx sy : Int) (ed : Bool) (lo hi : Int) (w : World) :
    Calls Tryz.prog 110 #[.agg #[.int .i64 ar, .int .i64 su, .int .i64 sx, .int .i64 sy, .bool ed], .int .i64 lo, .int .i64 hi] w fun e w' => e = .returned (.bool (goodB ar ed lo hi)) ∧ Below w.heap.size w w' := by
  by_cases h1 : lo ≤ ar
  · by_cases h2 : ar ≤ hi
    · go_enter Tryz.func110, Tryz.ntmps110
      go_wp2_with fail
      go_ret
      exact ⟨by rw [good_yes h1 h2]; rfl, below1 _ _⟩
    · go_enter Tryz.func110, Tryz.ntmps110
      go_wp2_with fail
      go_ret
      exact ⟨by rw [good_no (by omega)]; rfl, below1 _ _⟩
  · go_enter Tryz.func110, Tryz.ntmps110
    go_wp2_with fail
    go_ret
    exact ⟨by rw [good_no (by omega)]; rfl, below1 _ _⟩
set_option maxRecDepth 100000 in
theorem blobGood_any (ar su sx sy : Int) (ed : Bool) (lo hi : Int) (w : World) :
    Calls Tryz.prog 154 #[.agg #[.int .i64 ar, .int .i64 su, .int .i64 sx, .int .i64 sy, .bool ed], .int .i64 lo, .int .i64 hi] w fun e w' => e = .returned (.bool (goodB ar ed lo hi)) ∧ Below w.heap.size w w' := by
  by_cases h1 : lo ≤ ar
  · by_cases h2 : ar ≤ hi
    · go_enter Tryz.func154, Tryz.ntmps154
      go_wp2_with fail
      go_ret
      exact ⟨by rw [good_yes h1 h2]; rfl, below1 _ _⟩
    · go_enter Tryz.func154, Tryz.ntmps154
      go_wp2_with fail
      go_ret
      exact ⟨by rw [good_no (by omega)]; rfl, below1 _ _⟩
  · go_enter Tryz.func154, Tryz.ntmps154
    go_wp2_with fail
    go_ret
    exact ⟨by rw [good_no (by omega)]; rfl, below1 _ _⟩
set_option maxRecDepth 100000 in
theorem toFrame_any (wd ht : Int) (s : ByteArray) (w : World) :
    Calls Tryz.prog 33 #[.agg #[.int .i64 wd, .int .i64 ht, .string s]] w fun e w' => e = .returned (.agg #[.int .i64 wd, .int .i64 ht, .string s]) ∧ Below w.heap.size w w' := by
  go_enter Tryz.func33, Tryz.ntmps33
  go_wp2
  exact bodyPost_ret (v := .agg #[.int .i64 wd, .int .i64 ht, .string s]) (by simp [results, Tryz.results33, go_sem]) rfl ⟨rfl, below3 _ _ _ _⟩
def szI (left : Int) (s : ByteArray) : Int := if left - (s.size : Int) < 0 then -1 else left - (s.size : Int)
set_option maxRecDepth 100000 in
theorem szFrame_any (wd ht : Int) (s : ByteArray) (left : Int) (w : World) (hs : s.size ≤ maxLen) (h0 : 0 ≤ left) (h1 : left ≤ 1048576) :
    Calls Tryz.prog 25 #[.agg #[.int .i64 wd, .int .i64 ht, .string s], .int .i64 left] w fun e w' => e = .returned (.int .i64 (szI left s)) ∧ Below w.heap.size w w' := by
  unfold maxLen at hs
  by_cases h2 : left - (s.size : Int) < 0
  · go_enter Tryz.func25, Tryz.ntmps25
    go_wp2_with fail
    go_ret
    exact ⟨by unfold szI; rw [if_pos h2]; rfl, below1 _ _⟩
  · go_enter Tryz.func25, Tryz.ntmps25
    go_wp2_with fail
    go_ret
    exact ⟨by unfold szI; rw [if_neg (by omega)]; rfl, below1 _ _⟩
def SAt (w : World) (b : Nat) (vs : List Value) : Prop := ∀ i v, vs[i]? = some v → w.cell? ⟨b, i, none⟩ = some v
theorem SAt.lt {w : World} {b : Nat} {v : Value} {vs : List Value} (h : SAt w b (v :: vs)) : b < w.heap.size := World.block_lt_of_cell? w _ (h 0 v rfl)
theorem SAt.kept {w w' : World} {b : Nat} {v : Value} {vs : List Value} (h : SAt w b (v :: vs)) (hB : Below w.heap.size w w') : SAt w' b (v :: vs) := fun i u hu => by
  rw [hB.cell (p := ⟨b, i, none⟩) h.lt]; exact h i u hu
theorem SAt.c3 {w : World} {b : Nat} {x y z : Value} (h : SAt w b [x, y, z]) : w.cell? ⟨b, 0, none⟩ = some x ∧ w.cell? ⟨b, 1, none⟩ = some y ∧ w.cell? ⟨b, 2, none⟩ = some z := ⟨h 0 x rfl, h 1 y rfl, h 2 z rfl⟩
theorem SAt.c5 {w : World} {b : Nat} {x y z u v : Value} (h : SAt w b [x, y, z, u, v]) : w.cell? ⟨b, 0, none⟩ = some x ∧ w.cell? ⟨b, 1, none⟩ = some y ∧ w.cell? ⟨b, 2, none⟩ = some z ∧ w.cell? ⟨b, 3, none⟩ = some u ∧ w.cell? ⟨b, 4, none⟩ = some v := ⟨h 0 x rfl, h 1 y rfl, h 2 z rfl, h 3 u rfl, h 4 v rfl⟩
end Go.Proofs.YteoonaanoenjiaaGreatDoor
namespace Go.Proofs.YteoonaanoenjiaaGreatDoor
open Go.RowKit
end Go.Proofs.YteoonaanoenjiaaGreatDoor
namespace Go.Proofs.YteoonaanoenjiaaGreatDoor
open Go.RowKit Go.Sort
set_option linter.unusedVariables false
def Blk (w : World) (b : Nat) (cs : List Value) (t : TypeId) : Prop := w.heap[b]? = some (.cells cs.toArray t (0, 0))
theorem Blk.lt {w : World} {b : Nat} {cs : List Value} {t : TypeId} (h : Blk w b cs t) : b < w.heap.size := (Array.getElem?_eq_some_iff.1 h).1
theorem Blk.kept {w w' : World} {b : Nat} {cs : List Value} {t : TypeId} (h : Blk w b cs t) (hB : Below w.heap.size w w') : Blk w' b cs t := (hB.block b h.lt).trans h
theorem blk_new (w : World) (cs : List Value) (t : TypeId) : Blk (w.alloc (.cells cs.toArray t)) w.heap.size cs t := heap_alloc_new w _
theorem Blk.alloc {w : World} {b : Nat} {cs : List Value} {t : TypeId} (h : Blk w b cs t) (o : Obj) : Blk (w.alloc o) b cs t := h.kept (below1 _ _)
theorem Blk.cell {w : World} {b : Nat} {cs : List Value} {t : TypeId} (h : Blk w b cs t) (i : Nat) (v : Value) (hv : cs[i]? = some v) : w.cell? ⟨b, i, none⟩ = some v := by
  rw [cell_of_row w b i _ _ _ h]; simpa using hv
theorem Blk.free {w : World} {b : Nat} {cs : List Value} {t : TypeId} (h : Blk w b cs t) (i : Nat) : w.frozen? ⟨b, i, none⟩ = false := frozen_of_row w b i _ _ h
theorem Blk.set {w : World} {b : Nat} {cs : List Value} {t : TypeId} (h : Blk w b cs t) (i : Nat) (v : Value) : Blk (w.setCell ⟨b, i, none⟩ v) b (cs.set i v) t := by
  have := heap_setCell_same w b i _ _ v h
  unfold Blk
  rw [this]
  simp
theorem Blk.other {w : World} {b : Nat} {cs : List Value} {t : TypeId} (h : Blk w b cs t) (a : Addr) (v : Value) (hne : b ≠ a.block) : Blk (w.setCell a v) b cs t := by
  unfold Blk
  rw [heap_setCell_other w a b v hne]
  exact h
theorem Blk.drewn {w : World} {b : Nat} {cs : List Value} {t : TypeId} (h : Blk w b cs t) : Blk w.drew b cs t := h
def BRow (w : World) (b n : Nat) (f : Nat → Int) : Prop := ∀ j, j < n → w.cell? ⟨b, j, none⟩ = some (.int .u8 (f j)) ∧ w.frozen? ⟨b, j, none⟩ = false
theorem BRow.kept {w w' : World} {b n : Nat} {f : Nat → Int} (h : BRow w b n f) (hb : b < w.heap.size) (hB : Below w.heap.size w w') : BRow w' b n f := fun j hj =>
  ⟨by rw [hB.cell (p := ⟨b, j, none⟩) hb]; exact (h j hj).1, by rw [hB.frozen (p := ⟨b, j, none⟩) hb]; exact (h j hj).2⟩
theorem BRow.drewn {w : World} {b n : Nat} {f : Nat → Int} (h : BRow w b n f) : BRow w.drew b n f := h
theorem BRow.congr {w : World} {b n : Nat} {f f' : Nat → Int} (h : BRow w b n f) (e : ∀ j, j < n → f j = f' j) : BRow w b n f' := fun j hj => ⟨by rw [(h j hj).1, e j hj], (h j hj).2⟩
theorem BRow.set {w : World} {b n : Nat} {f : Nat → Int} (h : BRow w b n f) (i : Nat) (hi : i < n) (v : Int) : BRow (w.setCell ⟨b, i, none⟩ (.int .u8 v)) b n (fun j => if j = i then v else f j) := fun j hj => by
  refine ⟨?_, ?_⟩
  · show _ = some (Value.int .u8 (if j = i then v else f j))
    by_cases e : j = i
    · subst e
      rw [if_pos rfl, World.cell?_setCell_same _ _ _ (h j hj).1]
    · rw [if_neg e, World.cell?_setCell_other _ _ _ _ (fun h => e (by simpa using (congrArg Addr.off h).symm)), (h j hj).1]
  · rw [← (h j hj).2]
    simp
theorem bcs3 {w : World} {b : Nat} {t : TypeId} {x0 x1 x2 : Value} {r : List Value} (h : Blk w b (x0 :: x1 :: x2 :: r) t) : w.cell? ⟨b, 0, none⟩ = some x0 ∧ w.cell? ⟨b, 1, none⟩ = some x1 ∧ w.cell? ⟨b, 2, none⟩ = some x2 := ⟨h.cell 0 _ rfl, h.cell 1 _ rfl, h.cell 2 _ rfl⟩
theorem bcs4 {w : World} {b : Nat} {t : TypeId} {x0 x1 x2 x3 : Value} {r : List Value} (h : Blk w b (x0 :: x1 :: x2 :: x3 :: r) t) : w.cell? ⟨b, 0, none⟩ = some x0 ∧ w.cell? ⟨b, 1, none⟩ = some x1 ∧ w.cell? ⟨b, 2, none⟩ = some x2 ∧ w.cell? ⟨b, 3, none⟩ = some x3 := ⟨h.cell 0 _ rfl, h.cell 1 _ rfl, h.cell 2 _ rfl, h.cell 3 _ rfl⟩
theorem bcs5 {w : World} {b : Nat} {t : TypeId} {x0 x1 x2 x3 x4 : Value} {r : List Value} (h : Blk w b (x0 :: x1 :: x2 :: x3 :: x4 :: r) t) : w.cell? ⟨b, 0, none⟩ = some x0 ∧ w.cell? ⟨b, 1, none⟩ = some x1 ∧ w.cell? ⟨b, 2, none⟩ = some x2 ∧ w.cell? ⟨b, 3, none⟩ = some x3 ∧ w.cell? ⟨b, 4, none⟩ = some x4 := ⟨h.cell 0 _ rfl, h.cell 1 _ rfl, h.cell 2 _ rfl, h.cell 3 _ rfl, h.cell 4 _ rfl⟩
theorem bcs9 {w : World} {b : Nat} {t : TypeId} {x0 x1 x2 x3 x4 x5 x6 x7 x8 : Value} {r : List Value} (h : Blk w b (x0 :: x1 :: x2 :: x3 :: x4 :: x5 :: x6 :: x7 :: x8 :: r) t) : w.cell? ⟨b, 0, none⟩ = some x0 ∧ w.cell? ⟨b, 1, none⟩ = some x1 ∧ w.cell? ⟨b, 2, none⟩ = some x2 ∧ w.cell? ⟨b, 3, none⟩ = some x3 ∧ w.cell? ⟨b, 4, none⟩ = some x4 ∧ w.cell? ⟨b, 5, none⟩ = some x5 ∧ w.cell? ⟨b, 6, none⟩ = some x6 ∧ w.cell? ⟨b, 7, none⟩ = some x7 ∧ w.cell? ⟨b, 8, none⟩ = some x8 := ⟨h.cell 0 _ rfl, h.cell 1 _ rfl, h.cell 2 _ rfl, h.cell 3 _ rfl, h.cell 4 _ rfl, h.cell 5 _ rfl, h.cell 6 _ rfl, h.cell 7 _ rfl, h.cell 8 _ rfl⟩
theorem bcs10 {w : World} {b : Nat} {t : TypeId} {x0 x1 x2 x3 x4 x5 x6 x7 x8 x9 : Value} {r : List Value} (h : Blk w b (x0 :: x1 :: x2 :: x3 :: x4 :: x5 :: x6 :: x7 :: x8 :: x9 :: r) t) : w.cell? ⟨b, 0, none⟩ = some x0 ∧ w.cell? ⟨b, 1, none⟩ = some x1 ∧ w.cell? ⟨b, 2, none⟩ = some x2 ∧ w.cell? ⟨b, 3, none⟩ = some x3 ∧ w.cell? ⟨b, 4, none⟩ = some x4 ∧ w.cell? ⟨b, 5, none⟩ = some x5 ∧ w.cell? ⟨b, 6, none⟩ = some x6 ∧ w.cell? ⟨b, 7, none⟩ = some x7 ∧ w.cell? ⟨b, 8, none⟩ = some x8 ∧ w.cell? ⟨b, 9, none⟩ = some x9 := ⟨h.cell 0 _ rfl, h.cell 1 _ rfl, h.cell 2 _ rfl, h.cell 3 _ rfl, h.cell 4 _ rfl, h.cell 5 _ rfl, h.cell 6 _ rfl, h.cell 7 _ rfl, h.cell 8 _ rfl, h.cell 9 _ rfl⟩
theorem bcs11 {w : World} {b : Nat} {t : TypeId} {x0 x1 x2 x3 x4 x5 x6 x7 x8 x9 x10 : Value} {r : List Value} (h : Blk w b (x0 :: x1 :: x2 :: x3 :: x4 :: x5 :: x6 :: x7 :: x8 :: x9 :: x10 :: r) t) : w.cell? ⟨b, 0, none⟩ = some x0 ∧ w.cell? ⟨b, 1, none⟩ = some x1 ∧ w.cell? ⟨b, 2, none⟩ = some x2 ∧ w.cell? ⟨b, 3, none⟩ = some x3 ∧ w.cell? ⟨b, 4, none⟩ = some x4 ∧ w.cell? ⟨b, 5, none⟩ = some x5 ∧ w.cell? ⟨b, 6, none⟩ = some x6 ∧ w.cell? ⟨b, 7, none⟩ = some x7 ∧ w.cell? ⟨b, 8, none⟩ = some x8 ∧ w.cell? ⟨b, 9, none⟩ = some x9 ∧ w.cell? ⟨b, 10, none⟩ = some x10 := ⟨h.cell 0 _ rfl, h.cell 1 _ rfl, h.cell 2 _ rfl, h.cell 3 _ rfl, h.cell 4 _ rfl, h.cell 5 _ rfl, h.cell 6 _ rfl, h.cell 7 _ rfl, h.cell 8 _ rfl, h.cell 9 _ rfl, h.cell 10 _ rfl⟩
theorem bfs3 {w : World} {b : Nat} {t : TypeId} {cs : List Value} (h : Blk w b cs t) : w.frozen? ⟨b, 0, none⟩ = false ∧ w.frozen? ⟨b, 1, none⟩ = false ∧ w.frozen? ⟨b, 2, none⟩ = false := ⟨h.free 0, h.free 1, h.free 2⟩
theorem bfs5 {w : World} {b : Nat} {t : TypeId} {cs : List Value} (h : Blk w b cs t) : w.frozen? ⟨b, 0, none⟩ = false ∧ w.frozen? ⟨b, 1, none⟩ = false ∧ w.frozen? ⟨b, 2, none⟩ = false ∧ w.frozen? ⟨b, 3, none⟩ = false ∧ w.frozen? ⟨b, 4, none⟩ = false := ⟨h.free 0, h.free 1, h.free 2, h.free 3, h.free 4⟩
theorem bfs9 {w : World} {b : Nat} {t : TypeId} {cs : List Value} (h : Blk w b cs t) : w.frozen? ⟨b, 0, none⟩ = false ∧ w.frozen? ⟨b, 1, none⟩ = false ∧ w.frozen? ⟨b, 2, none⟩ = false ∧ w.frozen? ⟨b, 3, none⟩ = false ∧ w.frozen? ⟨b, 4, none⟩ = false ∧ w.frozen? ⟨b, 5, none⟩ = false ∧ w.frozen? ⟨b, 6, none⟩ = false ∧ w.frozen? ⟨b, 7, none⟩ = false ∧ w.frozen? ⟨b, 8, none⟩ = false := ⟨h.free 0, h.free 1, h.free 2, h.free 3, h.free 4, h.free 5, h.free 6, h.free 7, h.free 8⟩
theorem bfs10 {w : World} {b : Nat} {t : TypeId} {cs : List Value} (h : Blk w b cs t) : w.frozen? ⟨b, 0, none⟩ = false ∧ w.frozen? ⟨b, 1, none⟩ = false ∧ w.frozen? ⟨b, 2, none⟩ = false ∧ w.frozen? ⟨b, 3, none⟩ = false ∧ w.frozen? ⟨b, 4, none⟩ = false ∧ w.frozen? ⟨b, 5, none⟩ = false ∧ w.frozen? ⟨b, 6, none⟩ = false ∧ w.frozen? ⟨b, 7, none⟩ = false ∧ w.frozen? ⟨b, 8, none⟩ = false ∧ w.frozen? ⟨b, 9, none⟩ = false := ⟨h.free 0, h.free 1, h.free 2, h.free 3, h.free 4, h.free 5, h.free 6, h.free 7, h.free 8, h.free 9⟩
theorem bfs11 {w : World} {b : Nat} {t : TypeId} {cs : List Value} (h : Blk w b cs t) : w.frozen? ⟨b, 0, none⟩ = false ∧ w.frozen? ⟨b, 1, none⟩ = false ∧ w.frozen? ⟨b, 2, none⟩ = false ∧ w.frozen? ⟨b, 3, none⟩ = false ∧ w.frozen? ⟨b, 4, none⟩ = false ∧ w.frozen? ⟨b, 5, none⟩ = false ∧ w.frozen? ⟨b, 6, none⟩ = false ∧ w.frozen? ⟨b, 7, none⟩ = false ∧ w.frozen? ⟨b, 8, none⟩ = false ∧ w.frozen? ⟨b, 9, none⟩ = false ∧ w.frozen? ⟨b, 10, none⟩ = false := ⟨h.free 0, h.free 1, h.free 2, h.free 3, h.free 4, h.free 5, h.free 6, h.free 7, h.free 8, h.free 9, h.free 10⟩
end Go.Proofs.YteoonaanoenjiaaGreatDoor
namespace Go.Proofs.YteoonaanoenjiaaGreatDoor
set_option linter.unusedVariables false
structure Fr where
  wd : Nat
  ht : Nat
  px : Nat → Nat
  lv : Int
def Fr.n (f : Fr) : Nat := f.wd * f.ht
def litP (f : Fr) (T : Nat → Bool) (i : Nat) : Bool := decide (f.lv < (f.px i : Int)) && !T i
def mark (T : Nat → Bool) (i : Nat) : Nat → Bool := fun j => if j = i then true else T j
def nextsP (f : Fr) (i : Nat) : List Nat :=
  (if 0 < i % f.wd then [i - 1] else []) ++ (if i % f.wd < f.wd - 1 then [i + 1] else []) ++ (if 0 < i / f.wd then [i - f.wd] else []) ++ (if i / f.wd < f.ht - 1 then [i + f.wd] else [])
def take1 (f : Fr) (s : (Nat → Bool) × List Nat) (j : Nat) : (Nat → Bool) × List Nat := if litP f s.1 j = true then (mark s.1 j, s.2 ++ [j]) else s
def passP (f : Fr) (s : (Nat → Bool) × List Nat) (l : List Nat) : (Nat → Bool) × List Nat := l.foldl (take1 f) s
def growP (f : Fr) (T : Nat → Bool) (i : Nat) : Nat → (Nat → Bool) × List Nat
  | 0 => (mark T i, [i])
  | k + 1 => if k < (growP f T i k).2.length then passP f (growP f T i k) (nextsP f ((growP f T i k).2.getD k 0)) else growP f T i k
def cnt (T : Nat → Bool) : Nat → Nat
  | 0 => 0
  | n + 1 => cnt T n + if T n = true then 1 else 0
theorem cnt_le (T : Nat → Bool) : ∀ n, cnt T n ≤ n
  | 0 => Nat.le_refl _
  | n + 1 => by unfold cnt; have := cnt_le T n; split <;> omega
theorem cnt_mark_ge (T : Nat → Bool) (i : Nat) : ∀ n, n ≤ i → cnt (mark T i) n = cnt T n
  | 0, _ => rfl
  | n + 1, h => by
    have e : mark T i n = T n := by unfold mark; rw [if_neg (by omega)]
    unfold cnt
    rw [cnt_mark_ge T i n (by omega), e]
theorem cnt_mark (T : Nat → Bool) (i : Nat) (hT : T i = false) : ∀ n, i < n → cnt (mark T i) n = cnt T n + 1
  | 0, h => absurd h (Nat.not_lt_zero _)
  | n + 1, h => by
    unfold cnt
    by_cases e : i = n
    · subst e
      rw [cnt_mark_ge T i i (Nat.le_refl _), hT]
      simp [mark]
    · have e2 : mark T i n = T n := by unfold mark; rw [if_neg (by omega)]
      rw [cnt_mark T i hT n (by omega), e2]
      omega
structure Good (f : Fr) (c : Nat) (s : (Nat → Bool) × List Nat) : Prop where
  num : cnt s.1 f.n = c + s.2.length
  lies : ∀ j ∈ s.2, j < f.n
theorem Good.len {f : Fr} {c : Nat} {s : (Nat → Bool) × List Nat} (h : Good f c s) : c + s.2.length ≤ f.n := by rw [← h.num]; exact cnt_le _ _
theorem litP_yes {f : Fr} {T : Nat → Bool} {j : Nat} (h : litP f T j = true) : f.lv < (f.px j : Int) ∧ T j = false := by
  unfold litP at h
  rw [Bool.and_eq_true] at h
  exact ⟨of_decide_eq_true h.1, by simpa using h.2⟩
theorem take1_good {f : Fr} {c : Nat} {s : (Nat → Bool) × List Nat} (h : Good f c s) {j : Nat} (hj : j < f.n) : Good f c (take1 f s j) := by
  unfold take1
  split
  · rename_i hl
    refine ⟨?_, ?_⟩
    · show cnt (mark s.1 j) f.n = _
      rw [cnt_mark _ _ (litP_yes hl).2 _ hj, h.num]
      simp
      omega
    · intro q hq
      rw [List.mem_append] at hq
      rcases hq with hq | hq
      · exact h.lies q hq
      · rw [List.mem_singleton.1 hq]; exact hj
  · exact h
theorem passP_good {f : Fr} {c : Nat} (l : List Nat) : ∀ {s : (Nat → Bool) × List Nat}, Good f c s → (∀ j ∈ l, j < f.n) → Good f c (passP f s l) := by
  induction l with
  | nil => intro s h _; exact h
  | cons x l ih => intro s h hl; exact ih (take1_good h (hl x (by simp))) (fun j hj => hl j (by simp [hj]))
theorem nexts_in {f : Fr} {i : Nat} (hi : i < f.n) : ∀ j ∈ nextsP f i, j < f.n := by
  intro j hj
  have hw : 0 < f.wd := by
    rcases Nat.eq_zero_or_pos f.wd with h | h
    · rw [Fr.n, h, Nat.zero_mul] at hi; omega
    · exact h
  have hdm := Nat.div_add_mod i f.wd
  have hmod := Nat.mod_lt i hw
  have hdiv : i / f.wd < f.ht := Nat.div_lt_of_lt_mul hi
  unfold nextsP at hj
  simp only [List.mem_append] at hj
  rcases hj with ((hj | hj) | hj) | hj
  · by_cases h : 0 < i % f.wd
    · rw [if_pos h] at hj; rw [List.mem_singleton.1 hj]; omega
    · rw [if_neg h] at hj; cases hj
  · by_cases h : i % f.wd < f.wd - 1
    · rw [if_pos h] at hj
      rw [List.mem_singleton.1 hj]
      have h2 : f.wd * (i / f.wd + 1) ≤ f.wd * f.ht := Nat.mul_le_mul_left _ hdiv
      rw [Nat.mul_add, Nat.mul_one] at h2
      show i + 1 < f.wd * f.ht
      omega
    · rw [if_neg h] at hj; cases hj
  · by_cases h : 0 < i / f.wd
    · rw [if_pos h] at hj; rw [List.mem_singleton.1 hj]; omega
    · rw [if_neg h] at hj; cases hj
  · by_cases h : i / f.wd < f.ht - 1
    · rw [if_pos h] at hj
      rw [List.mem_singleton.1 hj]
      have h3 : i / f.wd + 1 + 1 ≤ f.ht := by
        generalize i / f.wd = q at *
        omega
      have h2 : f.wd * (i / f.wd + 1 + 1) ≤ f.wd * f.ht := Nat.mul_le_mul_left _ h3
      rw [Nat.mul_add, Nat.mul_add, Nat.mul_one] at h2
      show i + f.wd < f.wd * f.ht
      omega
    · rw [if_neg h] at hj; cases hj
theorem growP_good {f : Fr} {T : Nat → Bool} {i : Nat} (hi : i < f.n) (hT : T i = false) : ∀ k, Good f (cnt T f.n) (growP f T i k)
  | 0 => ⟨by show cnt (mark T i) f.n = _; rw [cnt_mark _ _ hT _ hi]; rfl, fun j hj => by rw [List.mem_singleton.1 hj]; exact hi⟩
  | k + 1 => by
    have ih := growP_good hi hT k
    unfold growP
    split
    · rename_i h
      refine passP_good _ ih (nexts_in (ih.lies _ ?_))
      rw [List.getD, List.getElem?_eq_getElem h]
      exact List.getElem_mem h
    · exact ih
theorem take1_pre (f : Fr) (s : (Nat → Bool) × List Nat) (j : Nat) : s.2 <+: (take1 f s j).2 := by
  unfold take1
  split
  · exact ⟨[j], rfl⟩
  · exact List.prefix_refl _
theorem passP_pre (f : Fr) (l : List Nat) : ∀ s : (Nat → Bool) × List Nat, s.2 <+: (passP f s l).2 := by
  induction l with
  | nil => intro s; exact List.prefix_refl _
  | cons x l ih => intro s; exact (take1_pre f s x).trans (ih _)
theorem growP_pre (f : Fr) (T : Nat → Bool) (i k : Nat) : (growP f T i k).2 <+: (growP f T i (k + 1)).2 := by
  rw [growP]
  split
  · exact passP_pre _ _ _
  · exact List.prefix_refl _
theorem growP_stay {f : Fr} {T : Nat → Bool} {i k : Nat} (h : (growP f T i k).2.length ≤ k) : ∀ m, growP f T i (k + m) = growP f T i k
  | 0 => rfl
  | m + 1 => by
    have ih := growP_stay h m
    rw [← Nat.add_assoc, growP, ih, if_neg (by omega)]
def blobP (f : Fr) (T : Nat → Bool) (i : Nat) : (Nat → Bool) × List Nat := growP f T i f.n
theorem blobP_end {f : Fr} {T : Nat → Bool} {i k : Nat} (hi : i < f.n) (hT : T i = false) (hk : (growP f T i k).2.length ≤ k) (hkn : k ≤ f.n) : growP f T i k = blobP f T i := by
  unfold blobP
  rw [← growP_stay hk (f.n - k), show k + (f.n - k) = f.n by omega]
structure Bl where
  ar : Nat
  su : Nat
  sx : Nat
  sy : Nat
  ed : Bool
def edgeP (f : Fr) (i : Nat) : Bool := decide (i % f.wd = 0) || decide (i / f.wd = 0) || decide (i % f.wd = f.wd - 1) || decide (i / f.wd = f.ht - 1)
def addP (f : Fr) (b : Bl) (i : Nat) : Bl := ⟨b.ar + 1, b.su + f.px i, b.sx + f.px i * (i % f.wd), b.sy + f.px i * (i / f.wd), b.ed || edgeP f i⟩
def sumP (f : Fr) (l : List Nat) : Bl := l.foldl (addP f) ⟨0, 0, 0, 0, false⟩
theorem sumP_snoc (f : Fr) (l : List Nat) (i : Nat) : sumP f (l ++ [i]) = addP f (sumP f l) i := by unfold sumP; rw [List.foldl_append]; rfl
def scanP (f : Fr) : Nat → (Nat → Bool) × List Bl
  | 0 => (fun _ => false, [])
  | i + 1 => if litP f (scanP f i).1 i = true then ((blobP f (scanP f i).1 i).1, (scanP f i).2 ++ [sumP f (blobP f (scanP f i).1 i).2]) else scanP f i
theorem scanP_len (f : Fr) (i : Nat) : ∀ m, (scanP f i).2.length ≤ (scanP f (i + m)).2.length
  | 0 => Nat.le_refl _
  | m + 1 => by
    refine Nat.le_trans (scanP_len f i m) ?_
    rw [← Nat.add_assoc, scanP]
    split
    · simp
    · exact Nat.le_refl _
theorem scanP_most (f : Fr) : ∀ i, (scanP f i).2.length ≤ i
  | 0 => Nat.le_refl _
  | i + 1 => by
    have := scanP_most f i
    rw [scanP]
    split
    · simp; omega
    · omega
theorem fold_bound {f : Fr} (hw : f.wd ≤ 16) (hh : f.ht ≤ 12) (hp : ∀ i, f.px i < 256) : ∀ (l : List Nat) (b : Bl), (∀ j ∈ l, j < f.n) → (l.foldl (addP f) b).ar = b.ar + l.length ∧ (l.foldl (addP f) b).su ≤ b.su + 255 * l.length ∧ (l.foldl (addP f) b).sx ≤ b.sx + 3825 * l.length ∧ (l.foldl (addP f) b).sy ≤ b.sy + 2805 * l.length
  | [], b, _ => ⟨rfl, Nat.le_refl _, Nat.le_refl _, Nat.le_refl _⟩
  | i :: l, b, hl => by
    obtain ⟨h1, h2, h3, h4⟩ := fold_bound hw hh hp l (addP f b i) (fun j hj => hl j (by simp [hj]))
    have hi := hl i (by simp)
    have hpi := hp i
    have hw0 : 0 < f.wd := by
      rcases Nat.eq_zero_or_pos f.wd with h | h
      · rw [Fr.n, h, Nat.zero_mul] at hi; omega
      · exact h
    have hm := Nat.mod_lt i hw0
    have hd : i / f.wd < f.ht := Nat.div_lt_of_lt_mul hi
    have m1 : f.px i * (i % f.wd) ≤ 255 * 15 := Nat.mul_le_mul (by omega) (by omega)
    have m2 : f.px i * (i / f.wd) ≤ 255 * 11 := Nat.mul_le_mul (by omega) (by omega)
    rw [List.foldl_cons, List.length_cons]
    unfold addP at h1 h2 h3 h4 ⊢
    simp only at h1 h2 h3 h4 ⊢
    refine ⟨by omega, by omega, by omega, by omega⟩
theorem sum_bound {f : Fr} (hw : f.wd ≤ 16) (hh : f.ht ≤ 12) (hp : ∀ i, f.px i < 256) (l : List Nat) (hl : ∀ j ∈ l, j < f.n) : (sumP f l).ar = l.length ∧ (sumP f l).su ≤ 255 * l.length ∧ (sumP f l).sx ≤ 3825 * l.length ∧ (sumP f l).sy ≤ 2805 * l.length := by
  have := fold_bound hw hh hp l ⟨0, 0, 0, 0, false⟩ hl
  simpa [sumP] using this
end Go.Proofs.YteoonaanoenjiaaGreatDoor
namespace Go.Proofs.YteoonaanoenjiaaGreatDoor
open Go.RowKit
set_option linter.unusedVariables false
def RowV (w : World) (t : TypeId) (g m : Nat) (f : Nat → Value) : Prop := ∃ cur : Array Value, w.heap[g]? = some (.cells cur t (0, 0)) ∧ ∀ j, j < m → cur[j]? = some (f j)
theorem RowV.lt {w : World} {t : TypeId} {g m : Nat} {f : Nat → Value} (h : RowV w t g m f) : g < w.heap.size := by
  obtain ⟨cur, hc, _⟩ := h
  exact (Array.getElem?_eq_some_iff.1 hc).1
theorem RowV.same {w w' : World} {t : TypeId} {g m : Nat} {f : Nat → Value} (h : RowV w t g m f) (e : w'.heap[g]? = w.heap[g]?) : RowV w' t g m f := by
  obtain ⟨cur, hc, hs⟩ := h
  exact ⟨cur, by rw [e]; exact hc, hs⟩
theorem RowV.kept {w w' : World} {t : TypeId} {g m : Nat} {f : Nat → Value} (h : RowV w t g m f) (hB : Below w.heap.size w w') : RowV w' t g m f := h.same (hB.block g h.lt)
theorem RowV.congr {w : World} {t : TypeId} {g m : Nat} {f f' : Nat → Value} (h : RowV w t g m f) (e : ∀ j, j < m → f j = f' j) : RowV w t g m f' := by
  obtain ⟨cur, hc, hs⟩ := h
  exact ⟨cur, hc, fun j hj => by rw [hs j hj, e j hj]⟩
theorem RowV.cell {w : World} {t : TypeId} {g m j : Nat} {f : Nat → Value} (h : RowV w t g m f) (hj : j < m) : w.cell? ⟨g, j, none⟩ = some (f j) := by
  obtain ⟨cur, hc, hs⟩ := h
  rw [cell_of_row w g j cur t _ hc]
  exact hs j hj
theorem RowV.free {w : World} {t : TypeId} {g m : Nat} {f : Nat → Value} (h : RowV w t g m f) (j : Nat) : w.frozen? ⟨g, j, none⟩ = false := by
  obtain ⟨cur, hc, _⟩ := h
  exact frozen_of_row w g j cur t hc
theorem RowV.set {w : World} {t : TypeId} {g m : Nat} {f : Nat → Value} (h : RowV w t g m f) (i : Nat) (v : Value) : RowV (w.setCell ⟨g, i, none⟩ v) t g m (fun j => if j = i then v else f j) := by
  obtain ⟨cur, hc, hs⟩ := h
  refine ⟨_, heap_setCell_same w g i cur t v hc, fun j hj => ?_⟩
  have := hs j hj
  rw [Array.getElem?_setIfInBounds]
  by_cases e : i = j
  · subst e
    simp [(Array.getElem?_eq_some_iff.1 this).1]
  · have e' : ¬ j = i := fun h => e (Eq.symm h)
    simp [e, e', this]
structure Apart (lo hi : Nat) (w w' : World) : Prop where
  os : w'.os = w.os
  tape : w'.tape = w.tape
  output : w'.output = w.output
  size : w.heap.size ≤ w'.heap.size
  block : ∀ k, k < w.heap.size → (k < lo ∨ hi ≤ k) → w'.heap[k]? = w.heap[k]?
theorem Apart.refl (lo hi : Nat) (w : World) : Apart lo hi w w := ⟨rfl, rfl, rfl, Nat.le_refl _, fun _ _ _ => rfl⟩
theorem Apart.of {lo hi g : Nat} {w w' : World} (h : w.grownBy w' (some g)) (h1 : lo ≤ g) (h2 : g < hi) : Apart lo hi w w' := ⟨h.os, h.tape, h.output, h.size, fun k hk hne => h.block k hk (fun e => by have := Option.some.inj e; omega)⟩
theorem Apart.below {B lo hi : Nat} {w w1 w2 : World} (h : Below B w w1) (ha : Apart lo hi w1 w2) (h1 : B ≤ lo) (h2 : B ≤ w1.heap.size) : Below B w w2 :=
  h.trans ⟨ha.os, ha.tape, ha.output, ha.size, fun k hk => ha.block k (by omega) (.inl (by omega))⟩
theorem gRefl (w : World) (row : Option Nat) : w.grownBy w row := ⟨rfl, rfl, rfl, Nat.le_refl _, fun _ _ _ => rfl⟩
theorem gSet {w w1 : World} {g : Nat} (h : w.grownBy w1 (some g)) (i : Nat) (v : Value) : w.grownBy (w1.setCell ⟨g, i, none⟩ v) (some g) :=
  ⟨h.os, h.tape, h.output, by simpa [World.setCell] using h.size, fun k hk hne => by rw [Below.heap_setCell _ _ _ _ (fun e => hne (by rw [e]))]; exact h.block k hk hne⟩
def PRow (w : World) (t : TypeId) (c lo hi n : Nat) (v : Value) (f : Nat → Value) : Prop := (n = 0 ∧ ∃ a cap, v = .slice a 0 cap) ∨ ∃ g cap, v = .slice (some ⟨g, 0, none⟩) n cap ∧ lo ≤ g ∧ g < hi ∧ RowV w t g (n * c) f
theorem PRow.kept {w w' : World} {t : TypeId} {c lo hi n : Nat} {v : Value} {f : Nat → Value} (h : PRow w t c lo hi n v f) (hB : Below w.heap.size w w') : PRow w' t c lo hi n v f := by
  rcases h with h | ⟨g, cap, hv, h1, h2, hr⟩
  · exact .inl h
  · exact .inr ⟨g, cap, hv, h1, h2, hr.kept hB⟩
theorem PRow.apart {w w' : World} {t : TypeId} {c lo hi l h n : Nat} {v : Value} {f : Nat → Value} (hp : PRow w t c lo hi n v f) (ha : Apart l h w w') (hd : hi ≤ l ∨ h ≤ lo) : PRow w' t c lo hi n v f := by
  rcases hp with hp | ⟨g, cap, hv, h1, h2, hr⟩
  · exact .inl hp
  · exact .inr ⟨g, cap, hv, h1, h2, hr.same (ha.block g hr.lt (by omega))⟩
theorem PRow.wide {w : World} {t : TypeId} {c lo hi lo' hi' n : Nat} {v : Value} {f : Nat → Value} (h : PRow w t c lo hi n v f) (h1 : lo' ≤ lo) (h2 : hi ≤ hi') : PRow w t c lo' hi' n v f := by
  rcases h with h | ⟨g, cap, hv, g1, g2, hr⟩
  · exact .inl h
  · exact .inr ⟨g, cap, hv, by omega, by omega, hr⟩
theorem PRow.of {w : World} {t : TypeId} {c B n : Nat} {v : Value} {xs : List Value} {f : Nat → Value} (h : w.ownsRow B t c v n xs) (hf : ∀ j, j < n * c → xs[j]? = some (f j)) : PRow w t c B w.heap.size n v f := by
  rcases h.2 with ⟨h1, h0⟩ | ⟨g, cap, cur, hv, hb, hg, hnc, hcm, hcs, htake⟩
  · exact .inl ⟨h0, _, _, h1⟩
  · refine .inr ⟨g, cap, hv, hb, (Array.getElem?_eq_some_iff.1 hg).1, cur, hg, fun j hj => ?_⟩
    have e := hf j hj
    rw [← htake, List.getElem?_take, if_pos hj] at e
    simpa using e
end Go.Proofs.YteoonaanoenjiaaGreatDoor
namespace Go.Proofs.YteoonaanoenjiaaGreatDoor
open Go.RowKit Go.Sort
set_option linter.unusedVariables false
def SeenAt (w : World) (sb n : Nat) (T : Nat → Bool) : Prop := RowV w 4 sb n (fun j => .bool (T j))
def lookL (wd ht : Int) (s : ByteArray) (lv : Int) (sb n : Nat) : List Value := [.int .i64 wd, .int .i64 ht, .string s, .int .i64 lv, .slice (some ⟨sb, 0, none⟩) n n]
def LookAt (w : World) (xb : Nat) (wd ht : Int) (s : ByteArray) (lv : Int) (sb n : Nat) : Prop := Blk w xb (lookL wd ht s lv sb n) 202
def frOf (wd ht : Nat) (s : ByteArray) (lv : Int) : Fr := ⟨wd, ht, byteN s, lv⟩
set_option maxHeartbeats 1000000 in
set_option maxRecDepth 100000 in
theorem specLit_any (wd ht : Nat) (s : ByteArray) (lv : Int) (xb sb n i : Nat) (T : Nat → Bool) (w : World) (hn : n = s.size) (hi : i < n) (hL : LookAt w xb wd ht s lv sb n) (hS : SeenAt w sb n T) :
    Calls Tryz.prog 145 #[.pointer (some ⟨xb, 0, none⟩), .int .i64 i] w fun e w' => e = .returned (.bool (litP (frOf wd ht s lv) T i)) ∧ Below w.heap.size w w' := by
  subst hn
  have hi2 : (i : Int) < (s.size : Int) := by omega
  have c2 := hL.cell 2 _ rfl
  have c3 := hL.cell 3 _ rfl
  have c4 := hL.cell 4 _ rfl
  have d0 := hS.cell hi
  have r2 := cell_regrown c2
  have r3 := cell_regrown c3
  have r4 := cell_regrown c4
  have q0 := cell_regrown d0
  have hb := byteN_lt hi
  have HL : Hid (litP (frOf wd ht s lv) T i = (decide (lv < (s[i].toNat : Int)) && !T i)) := yz (by
    show (decide (lv < (byteN s i : Int)) && !T i) = _
    simp only [hb])
  clear c2 c3 c4 d0 hL hS hb
  generalize T i = t at *
  generalize litP (frOf wd ht s lv) T i = lit at *
  have hwr : wrap64 (s[i].toNat : Int) = (s[i].toNat : Int) := wrap_id (by omega) (by have := s[i].toNat_lt; omega)
  have HWR := yz hwr
  clear hwr
  by_cases hlt : lv < (s[i].toNat : Int)
  · have hd : decide (lv < wrap64 (s[i].toNat : Int)) = true := by rw [yx HWR]; exact decide_eq_true hlt
    have HL2 : Hid (lit = !t) := yz (by rw [yx HL, decide_eq_true hlt, Bool.true_and])
    clear HL
    go_enter Tryz.func145, Tryz.ntmps145
    go_wp2_with fail
    refine wp_region_quiet_below (by kernel_rfl) (by kernel_rfl) ?_
    repeat (go_big_quiet_step (fail))
    refine wpQuiet_nil ?_
    intro _ hw'
    obtain ⟨⟨dq, osq⟩, hw''⟩ := hw'
    subst hw''
    have hx := below_regrown w dq osq
    go_wp2_with fail
    go_ret
    exact ⟨by rw [yx HL2]; rfl, hx⟩
  · have HL2 : Hid (lit = false) := yz (by rw [yx HL, decide_eq_false hlt, Bool.false_and])
    have hd : decide (lv < wrap64 (s[i].toNat : Int)) = false := by rw [yx HWR]; exact decide_eq_false hlt
    clear HL
    go_enter Tryz.func145, Tryz.ntmps145
    go_wp2_with fail
    refine wp_region_quiet_below (by kernel_rfl) (by kernel_rfl) ?_
    repeat (go_big_quiet_step (fail))
    refine wpQuiet_nil ?_
    intro _ hw'
    obtain ⟨⟨dq, osq⟩, hw''⟩ := hw'
    subst hw''
    have hx := below_regrown w dq osq
    go_wp2_with fail
    go_ret
    exact ⟨by rw [yx HL2]; rfl, hx⟩
end Go.Proofs.YteoonaanoenjiaaGreatDoor
