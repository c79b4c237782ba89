/- Several texts in one: Tz, VecMath, IdM, SkyMath, TurnMath, TurnMath2, MaM, Plain, VecA, VecB, VecC, VecD, VecE, VecI, FrA. -/
import Derived.Deep.RegionHeld
import Derived.WalkKit
import Derived.Laws.BitsAllLaws
import Derived.Test.YthoiooefclbecaaGreatDoorChecked
import Derived.Below
import Derived.Laws.StructEq
import Derived.WalkLawsBesides
import Derived.Deep.RegionWith
import Derived.Lib.QuietBelow
import Derived.Deep.QuietTactic
import Derived.BigQuiet
namespace Go.Proofs.YthoiooefclbecaaGreatDoor
set_option linter.unusedVariables false
set_option linter.unusedSimpArgs false
set_option maxRecDepth 100000
set_option maxHeartbeats 8000000
section
theorem ac {P : Program} {ops : Array Oper} {Q : Exit → Act → World → Prop} {md : Region.Mode} {S : World → Prop} {fuel : Nat} {listed : Array Bool} {a : Act} {w : World} (i : Nat) {oi : Oper} {v : Value} (hi : ops[i]? = some oi) (h : wpAnyH P md ops Q S fuel (listed.setIfInBounds i true) (a.put oi.dst v) w) (hs : Region.noSelect ops = true := by kernel_rfl) (hf : Region.free md ops listed i = true := by kernel_rfl) (hr : (Region.ready md ops listed).contains i = true := by kernel_rfl) (hQ : ∀ c a w, Q (.panic c) (a.put oi.dst v) w → Q (.panic c) a w := by exact fun _ _ _ h => h) (hw : Region.wanted oi (yielded ops a.tmps) = true := by kernel_rfl) (hy : ∀ w, S w → (execOp a.eval oi).run P w = .ok (.value v) w := by (intro W0 hSw; (try dsimp only at hSw); go_simp <;> with_reducible rfl)) (hS : S w := by assumption) : wpAnyH P md ops Q S (fuel + 1) listed a w := wpAnyH_take hi hs hf hr hQ (Or.inl ⟨hw, hy⟩) hS h
theorem af {P : Program} {ops : Array Oper} {Q : Exit → Act → World → Prop} {md : Region.Mode} {S : World → Prop} {fuel : Nat} {listed : Array Bool} {a : Act} {w : World} (i : Nat) {o : Oper} (ho : ops[i]? = some o) (h : (∀ K' : Act → World → Prop, Shut (∀ a w, S w → (S w → wpAnyH P md ops Q S fuel (listed.setIfInBounds i true) a w) → K' a w) → if Region.wanted o (yielded ops a.tmps) = true then Oper.wp P o a w K' Q else K' (a.put o.dst undef) w)) (hr : Region.ready md ops listed = [i] := by kernel_rfl) : wpAnyH P md ops Q S (fuel + 1) listed a w := wpAnyH_ready hr (by simp) (AllReadyH.cons ho h AllReadyH.nil)
theorem ag {P : Program} {ops : Array Oper} {Q : Exit → Act → World → Prop} {md : Region.Mode} {S : World → Prop} {fuel : Nat} {listed : Array Bool} {a : Act} {w : World} (i j : Nat) {o u : Oper} (ho : ops[i]? = some o) (h : (∀ K' : Act → World → Prop, Shut (∀ a w, S w → (S w → wpAnyH P md ops Q S fuel (listed.setIfInBounds i true) a w) → K' a w) → if Region.wanted o (yielded ops a.tmps) = true then Oper.wp P o a w K' Q else K' (a.put o.dst undef) w)) (hu : ops[j]? = some u) (g : (∀ K' : Act → World → Prop, Shut (∀ a w, S w → (S w → wpAnyH P md ops Q S fuel (listed.setIfInBounds j true) a w) → K' a w) → if Region.wanted u (yielded ops a.tmps) = true then Oper.wp P u a w K' Q else K' (a.put u.dst undef) w)) (hr : Region.ready md ops listed = [i, j] := by kernel_rfl) : wpAnyH P md ops Q S (fuel + 1) listed a w := wpAnyH_ready hr (by simp) (AllReadyH.cons ho h (AllReadyH.cons hu g AllReadyH.nil))
theorem ah {α : Type} (i : Nat) (x : α) (l : List α) : l.toArray.setIfInBounds i x = (l.set i x).toArray := List.setIfInBounds_toArray ..
theorem ai {α : Type} (x y : α) (l : List α) : (x :: l).set 0 y = y :: l := rfl
theorem aj {α : Type} (x y : α) (l : List α) (n : Nat) : (x :: l).set (n + 1) y = x :: l.set n y := rfl
end
section
open Go.RowKit
def inB (m x : Int) : Bool := decide (-m ≤ x ∧ x ≤ m)
def az (m x y z : Int) : Bool := inB m x && inB m y && inB m z
def kP (x y z : Int) : Bool := decide (x = 0 ∧ y = 0 ∧ z = 0)
def ax (x y z : Int) : Bool := az 1000000 x y z && !kP x y z
theorem dS {m x : Int} : inB m x = true ↔ -m ≤ x ∧ x ≤ m := by simp [inB]
theorem aH {m x y z : Int} : az m x y z = true ↔ (-m ≤ x ∧ x ≤ m) ∧ (-m ≤ y ∧ y ≤ m) ∧ (-m ≤ z ∧ z ≤ m) := by
 simp [az, dS, and_assoc]
theorem bv {x y z : Int} : ax x y z = true ↔ ((-1000000 ≤ x ∧ x ≤ 1000000) ∧ (-1000000 ≤ y ∧ y ≤ 1000000) ∧ (-1000000 ≤ z ∧ z ≤ 1000000)) ∧ ¬ (x = 0 ∧ y = 0 ∧ z = 0) := by
 unfold ax
 rw [Bool.and_eq_true, aH]
 simp only [kP, Bool.not_eq_true', decide_eq_false_iff_not]
theorem au {n : Int} (h0 : -9223372036854775808 ≤ n) (h1 : n ≤ 9223372036854775807) : wrap64 n = n := by
 exact Go.IntWalk.wrap64_in n ⟨h0, h1⟩
theorem bu {a b A B : Int} (h1 : -A ≤ a ∧ a ≤ A) (h3 : -B ≤ b ∧ b ≤ B) : -(A * B) ≤ a * b ∧ a * b ≤ A * B := by
 have h : (a * b).natAbs ≤ A.natAbs * B.natAbs := by
  rw [Int.natAbs_mul]; exact Nat.mul_le_mul (by omega) (by omega)
 have : ((A.natAbs * B.natAbs : Nat) : Int) = A * B := by
  rw [Int.natCast_mul, Int.natAbs_of_nonneg (by omega), Int.natAbs_of_nonneg (by omega)]
 omega
def aR (a1 a2 a3 b1 b2 b3 : Int) : Int := wrap64 (wrap64 (wrap64 (a1 * b1) + wrap64 (a2 * b2)) + wrap64 (a3 * b3))
def dot (a1 a2 a3 b1 b2 b3 : Int) : Int := a1 * b1 + a2 * b2 + a3 * b3
def crW (a2 a3 b2 b3 : Int) : Int := wrap64 (wrap64 (a2 * b3) - wrap64 (a3 * b2))
theorem qg (a1 a2 a3 b1 b2 b3 : Int) : aR a1 a2 a3 b1 b2 b3 = aR b1 b2 b3 a1 a2 a3 := by
 unfold aR; rw [Int.mul_comm a1, Int.mul_comm a2, Int.mul_comm a3]
theorem bl {a1 a2 a3 b1 b2 b3 A B : Int} (ha : az A a1 a2 a3 = true) (hb : az B b1 b2 b3 = true) : -(3 * (A * B)) ≤ dot a1 a2 a3 b1 b2 b3 ∧ dot a1 a2 a3 b1 b2 b3 ≤ 3 * (A * B) := by
 rw [aH] at ha hb
 have h1 := bu ha.1 hb.1
 have h2 := bu ha.2.1 hb.2.1
 have h3 := bu ha.2.2 hb.2.2
 unfold dot
 omega
theorem bN {a1 a2 a3 b1 b2 b3 A B : Int} (ha : az A a1 a2 a3 = true) (hb : az B b1 b2 b3 = true) (h : 3 * (A * B) ≤ 9223372036854775807) : aR a1 a2 a3 b1 b2 b3 = dot a1 a2 a3 b1 b2 b3 := by
 rw [aH] at ha hb
 have h1 := bu ha.1 hb.1
 have h2 := bu ha.2.1 hb.2.1
 have h3 := bu ha.2.2 hb.2.2
 unfold aR dot
 rw [au (n := a1 * b1) (by omega) (by omega), au (n := a2 * b2) (by omega) (by omega), au (n := a3 * b3) (by omega) (by omega), au (n := a1 * b1 + a2 * b2) (by omega) (by omega), au (by omega) (by omega)]
theorem iq {a2 a3 b2 b3 A B : Int} (h2 : -A ≤ a2 ∧ a2 ≤ A) (h3 : -A ≤ a3 ∧ a3 ≤ A) (k2 : -B ≤ b2 ∧ b2 ≤ B) (k3 : -B ≤ b3 ∧ b3 ≤ B) (h : 2 * (A * B) ≤ 9223372036854775807) :
  crW a2 a3 b2 b3 = a2 * b3 - a3 * b2 ∧ -(2 * (A * B)) ≤ a2 * b3 - a3 * b2 ∧ a2 * b3 - a3 * b2 ≤ 2 * (A * B) := by
 have h1 := bu h2 k3
 have h2 := bu h3 k2
 unfold crW
 rw [au (n := a2 * b3) (by omega) (by omega), au (n := a3 * b2) (by omega) (by omega), au (by omega) (by omega)]
 omega
def lV (a1 a2 a3 b1 b2 b3 : Int) : Int := if ax a1 a2 a3 && ax b1 b2 b3 then aR a1 a2 a3 b1 b2 b3 else 0
def crI (r : Bool) (a2 a3 b2 b3 : Int) : Int := if r then crW a2 a3 b2 b3 else 0
def gI (x y z : Int) : Int := ((Int.gcd (Int.gcd x y : Int) z : Nat) : Int)
def prI (r : Bool) (g x : Int) : Int := if r then wrap64 (x.tdiv g) else 0
def fw (a1 a2 a3 b1 b2 b3 : Int) : Bool :=
 ax a1 a2 a3 && ax b1 b2 b3 && kP (crW a2 a3 b2 b3) (crW a3 a1 b3 b1) (crW a1 a2 b1 b2) && decide (0 < aR a1 a2 a3 b1 b2 b3)
theorem mY (a b : Int) : Int.gcd b (a.tmod b) = Int.gcd a b := by
 show Nat.gcd b.natAbs (a.tmod b).natAbs = Nat.gcd a.natAbs b.natAbs
 rw [Int.natAbs_tmod, Nat.gcd_comm b.natAbs, ← Nat.gcd_rec, Nat.gcd_comm]
theorem mZ (a : Int) : ((Int.gcd a 0 : Nat) : Int) = if a < 0 then -a else a := by
 rw [Int.gcd_zero_right]
 split <;> omega
theorem mF (a b : Int) (h : b ≠ 0) : (a.tmod b).natAbs < b.natAbs := by
 rw [Int.natAbs_tmod]; exact Nat.mod_lt _ (by omega)
theorem gn {a b m : Int} (ha : -m ≤ a ∧ a ≤ m) (hb : -m ≤ b ∧ b ≤ m) : 0 ≤ ((Int.gcd a b : Nat) : Int) ∧ ((Int.gcd a b : Nat) : Int) ≤ m := by
 refine ⟨by omega, ?_⟩
 by_cases h : a = 0
 ·subst h; rw [Int.gcd_zero_left]; omega
 ·have := Nat.le_of_dvd (by omega) (Nat.gcd_dvd_left a.natAbs b.natAbs)
  have e : Int.gcd a b = Nat.gcd a.natAbs b.natAbs := rfl
  omega
theorem qk (x y z : Int) : ((Int.gcd ((Int.gcd ((Int.gcd 0 x : Nat) : Int) y : Nat) : Int) z : Nat) : Int) = gI x y z := by
 unfold gI
 have : Int.gcd ((Int.gcd 0 x : Nat) : Int) y = Int.gcd x y := by
  rw [Int.gcd_zero_left]
  show Nat.gcd (x.natAbs : Int).natAbs y.natAbs = Nat.gcd x.natAbs y.natAbs
  rw [Int.natAbs_natCast]
 rw [this]
theorem ri {x y z : Int} (h : ax x y z = true) : 0 < gI x y z := by
 rw [bv] at h
 unfold gI
 have h2 : Int.gcd ((Int.gcd x y : Nat) : Int) z ≠ 0 := by
  intro e
  rw [Int.gcd_eq_zero_iff] at e
  have e1 : Int.gcd x y = 0 := by omega
  rw [Int.gcd_eq_zero_iff] at e1
  exact h.2 ⟨e1.1, e1.2, e.2⟩
 omega
theorem kG {x y z : Int} (h : ¬ (x = 0 ∧ y = 0 ∧ z = 0)) : 0 < dot x y z x y z := by
 unfold dot
 have hx : 0 ≤ x * x := by rw [← Int.natAbs_mul_self' x]; exact Int.natCast_nonneg _
 have hy : 0 ≤ y * y := by rw [← Int.natAbs_mul_self' y]; exact Int.natCast_nonneg _
 have hz : 0 ≤ z * z := by rw [← Int.natAbs_mul_self' z]; exact Int.natCast_nonneg _
 by_cases h1 : x = 0
 ·by_cases h2 : y = 0
  ·have h3 : z ≠ 0 := fun e => h ⟨h1, h2, e⟩
   have : z * z ≠ 0 := fun e => by rcases Int.mul_eq_zero.1 e with e | e <;> exact h3 e
   omega
  ·have : y * y ≠ 0 := fun e => by rcases Int.mul_eq_zero.1 e with e | e <;> exact h2 e
   omega
 ·have : x * x ≠ 0 := fun e => by rcases Int.mul_eq_zero.1 e with e | e <;> exact h1 e
  omega
def sgn (n : Int) : Int := if n < 0 then -1 else if 0 < n then 1 else 0
def bS (a b : Int) : Int := if a < b then -1 else if b < a then 1 else 0
def ssq (n : Int) : Int := if n < 0 then -n * n else n * n
def jw (n : Int) : Int := if n < 0 then wrap64 (wrap64 (-n) * n) else wrap64 (n * n)
def aO (x y z : Int) : Bool := ax x y z && az 1800 x y z
def aF (x y z : Int) : Bool := ax x y z && az 10 x y z
def dH (a1 a2 a3 b1 b2 b3 c1 c2 c3 d1 d2 d3 : Int) : Int :=
 if aO a1 a2 a3 && aO b1 b2 b3 && aF c1 c2 c3 && aF d1 d2 d3 then
  bS (ssq (dot a1 a2 a3 b1 b2 b3) * (dot c1 c2 c3 c1 c2 c3 * dot d1 d2 d3 d1 d2 d3)) (ssq (dot c1 c2 c3 d1 d2 d3) * (dot a1 a2 a3 a1 a2 a3 * dot b1 b2 b3 b1 b2 b3))
 else 0
theorem qV {a1 a2 a3 b1 b2 b3 c1 c2 c3 d1 d2 d3 : Int} (ha : az 1800 a1 a2 a3 = true) (hb : az 1800 b1 b2 b3 = true) (hc : az 10 c1 c2 c3 = true) (hd : az 10 d1 d2 d3 = true) :
  wrap64 (jw (aR a1 a2 a3 b1 b2 b3) * wrap64 (aR c1 c2 c3 c1 c2 c3 * aR d1 d2 d3 d1 d2 d3)) = ssq (dot a1 a2 a3 b1 b2 b3) * (dot c1 c2 c3 c1 c2 c3 * dot d1 d2 d3 d1 d2 d3) ∧
  wrap64 (jw (aR c1 c2 c3 d1 d2 d3) * wrap64 (aR a1 a2 a3 a1 a2 a3 * aR b1 b2 b3 b1 b2 b3)) = ssq (dot c1 c2 c3 d1 d2 d3) * (dot a1 a2 a3 a1 a2 a3 * dot b1 b2 b3 b1 b2 b3) := by
 rw [bN ha hb (by omega), bN hc hc (by omega), bN hd hd (by omega), bN hc hd (by omega), bN ha ha (by omega), bN hb hb (by omega)]
 have x1 := bl ha hb
 have x2 := bl hc hc
 have x3 := bl hd hd
 have x4 := bl hc hd
 have x5 := bl ha ha
 have x6 := bl hb hb
 generalize dot a1 a2 a3 b1 b2 b3 = p1 at *
 generalize dot c1 c2 c3 c1 c2 c3 = p2 at *
 generalize dot d1 d2 d3 d1 d2 d3 = p3 at *
 generalize dot c1 c2 c3 d1 d2 d3 = p4 at *
 generalize dot a1 a2 a3 a1 a2 a3 = p5 at *
 generalize dot b1 b2 b3 b1 b2 b3 = p6 at *
 have key : ∀ (p q r P Q : Int), (-P ≤ p ∧ p ≤ P) → (-Q ≤ q ∧ q ≤ Q) → (-Q ≤ r ∧ r ≤ Q) → P * P ≤ 9223372036854775807 → P ≤ 9223372036854775807 → Q * Q ≤ 9223372036854775807 → (P * P) * (Q * Q) ≤ 9223372036854775807 →
   wrap64 (jw p * wrap64 (q * r)) = ssq p * (q * r) := by
  intro p q r P Q h1 h2 h3 k1 k2 k3 k4
  have m1 := bu h1 h1
  have m2 := bu h2 h3
  have e : jw p = ssq p := by
   unfold jw ssq
   split
   ·rw [au (n := -p) (by omega) (by omega)]
    have : -p * p = -(p * p) := by grind
    rw [au (by omega) (by omega)]
   ·rw [au (by omega) (by omega)]
  have b : -(P * P) ≤ ssq p ∧ ssq p ≤ P * P := by
   unfold ssq
   have : -p * p = -(p * p) := by grind
   split <;> omega
  have m3 := bu b m2
  rw [e, au (n := q * r) (by omega) (by omega), au (by omega) (by omega)]
 exact ⟨key p1 p2 p3 9720000 300 (by omega) (by omega) (by omega) (by omega) (by omega) (by omega) (by omega), key p4 p5 p6 300 9720000 (by omega) (by omega) (by omega) (by omega) (by omega) (by omega) (by omega)⟩
theorem mn {a b : Int} (h : a < b) : bS a b = -1 := by simp [bS, h]
theorem mm {a b : Int} (h : b < a) : bS a b = 1 := by unfold bS; rw [if_neg (by omega), if_pos h]
theorem fR {x : Int} (h : x < 0) : ssq x = -(x * x) := by unfold ssq; rw [if_pos h]; grind
theorem fS {x : Int} (h : 0 ≤ x) : ssq x = x * x := by unfold ssq; rw [if_neg (by omega)]
theorem dV {x : Int} (h : x < 0) : sgn x = -1 := by simp [sgn, h]
theorem dW {x : Int} (h : 0 < x) : sgn x = 1 := by unfold sgn; rw [if_neg (by omega), if_pos h]
theorem hX : sgn 0 = 0 := by simp [sgn]
def jm (x y p q : Int) : Int :=
 if sgn x ≠ sgn y then sgn (wrap64 (sgn x - sgn y)) else if p < q then wrap64 (-sgn x) else if q < p then sgn x else 0
theorem qW {x y L M : Int} (hL : 0 < L) (hM : 0 < M) : jm x y (x * x * L) (y * y * M) = bS (ssq x * L) (ssq y * M) := by
 have sq : ∀ {x L : Int}, x ≠ 0 → 0 < L → 0 < x * x * L := fun {x L} h hL => by
  have h0 : 0 ≤ x * x := by rw [← Int.natAbs_mul_self' x]; exact Int.natCast_nonneg _
  have : x * x ≠ 0 := fun e => by rcases Int.mul_eq_zero.1 e with e | e <;> exact h e
  exact Int.mul_pos (by omega) hL
 have xL : x ≠ 0 → 0 < x * x * L := fun h => sq h hL
 have yM : y ≠ 0 → 0 < y * y * M := fun h => sq h hM
 have nx : -(x * x) * L = -(x * x * L) := by grind
 have ny : -(y * y) * M = -(y * y * M) := by grind
 have w1 : wrap64 (-1) = -1 := au (by omega) (by omega)
 have w2 : wrap64 (-2) = -2 := au (by omega) (by omega)
 have w3 : wrap64 1 = 1 := au (by omega) (by omega)
 have w4 : wrap64 2 = 2 := au (by omega) (by omega)
 have z0 : ssq 0 = 0 := by simp [ssq]
 unfold jm
 rcases Int.lt_trichotomy x 0 with hx0 | hx0 | hx0 <;> rcases Int.lt_trichotomy y 0 with hy0 | hy0 | hy0
 ·rw [dV hx0, dV hy0, fR hx0, fR hy0, nx, ny, if_neg (by simp), show (-(-1) : Int) = 1 from rfl, w3]
  unfold bS
  split
  ·rw [if_neg (by omega), if_pos (by omega)]
  ·split
   ·rw [if_pos (by omega)]
   ·rw [if_neg (by omega), if_neg (by omega)]
 ·subst hy0
  have := xL (by omega)
  rw [dV hx0, hX, fR hx0, z0, nx, mn (by omega), if_pos (by simp), show (-1 - 0 : Int) = -1 from rfl, w1, dV (by omega)]
 ·have := xL (by omega)
  have := yM (by omega)
  rw [dV hx0, dW hy0, fR hx0, fS (by omega), nx, mn (by omega), if_pos (by simp), show (-1 - 1 : Int) = -2 from rfl, w2, dV (by omega)]
 ·subst hx0
  have := yM (by omega)
  rw [dV hy0, hX, fR hy0, z0, ny, mm (by omega), if_pos (by simp), show (0 - -1 : Int) = 1 from rfl, w3, dW (by omega)]
 ·subst hx0; subst hy0
  simp [bS, ssq, sgn]
 ·subst hx0
  have := yM (by omega)
  rw [dW hy0, hX, fS (x := y) (by omega), z0, mn (by omega), if_pos (by simp), show (0 - 1 : Int) = -1 from rfl, w1, dV (by omega)]
 ·have := xL (by omega)
  have := yM (by omega)
  rw [dW hx0, dV hy0, fR hy0, fS (by omega), ny, mm (by omega), if_pos (by simp), show (1 - -1 : Int) = 2 from rfl, w4, dW (by omega)]
 ·subst hy0
  have := xL (by omega)
  rw [dW hx0, hX, fS (x := x) (by omega), z0, mm (by omega), if_pos (by simp), show (1 - 0 : Int) = 1 from rfl, w3, dW (by omega)]
 ·rw [dW hx0, dW hy0, fS (x := x) (by omega), fS (x := y) (by omega), if_neg (by simp), w1]
  rfl
abbrev D3 := Int × Int × Int
def vA (L : List D3) (i : Nat) : D3 := L.getD i (0, 0, 0)
abbrev St := Int × Int × Int × Int
def stC (s : St) : List Value := [.int .i64 s.1, .int .i64 s.2.1, .int .i64 s.2.2.1, .int .i64 s.2.2.2]
def stA (L : List St) (i : Nat) : St := L.getD i (0, 0, 0, 0)
def idB (n : Int) : Bool := decide (1 ≤ n) && decide (n ≤ 9999)
def upB (L : List St) (i : Nat) : Bool := decide (i = 0) || decide ((stA L (i - 1)).1 < (stA L i).1)
def eqI (a1 a2 a3 b1 b2 b3 : Int) : Bool := decide (a1 = b1 ∧ a2 = b2 ∧ a3 = b3)
def cy (x y z : Int) : Bool := eqI x y z (prI (ax x y z) (gI x y z) x) (prI (ax x y z) (gI x y z) y) (prI (ax x y z) (gI x y z) z)
def lI (p q : St) : Bool := fw p.2.1 p.2.2.1 p.2.2.2 q.2.1 q.2.2.1 q.2.2.2
def iv (L : List St) (s : St) (k : Nat) : Prop := ∀ j, j < k → lI s (stA L j) = false
def dh (L : List St) (s : St) (n : Nat) : Bool := (List.range n).any fun j => lI s (stA L j)
def cx (L : List St) (i : Nat) : Bool :=
 idB (stA L i).1 && upB L i && (aF (stA L i).2.1 (stA L i).2.2.1 (stA L i).2.2.2 && cy (stA L i).2.1 (stA L i).2.2.1 (stA L i).2.2.2) && !dh L (stA L i) i
def kY (L : List St) (k : Nat) : Prop := ∀ j, j < k → cx L j = true
def aB (L : List St) : Bool := decide (L.length ≤ 12) && (List.range L.length).all (cx L)
theorem kJ {L : List St} {s : St} {n : Nat} (h : iv L s n) : dh L s n = false := by
 unfold dh
 rw [List.any_eq_false]
 intro j hj
 rw [h j (List.mem_range.1 hj)]
 simp
theorem lN {L : List St} {s : St} {n j : Nat} (hj : j < n) (h : lI s (stA L j) = true) : dh L s n = true := by
 unfold dh
 rw [List.any_eq_true]
 exact ⟨j, List.mem_range.2 hj, h⟩
theorem lx {L : List St} {s : St} {k : Nat} (h : iv L s k) (h1 : lI s (stA L k) = false) : iv L s (k + 1) := by
 intro j hj
 by_cases e : j = k
 ·rw [e]; exact h1
 ·exact h j (by omega)
theorem ml {L : List St} {k : Nat} (h : kY L k) (h1 : cx L k = true) : kY L (k + 1) := by
 intro j hj
 by_cases e : j = k
 ·rw [e]; exact h1
 ·exact h j (by omega)
theorem mz {L : List St} (hl : L.length ≤ 12) (h : kY L L.length) : aB L = true := by
 unfold aB
 rw [Bool.and_eq_true, List.all_eq_true]
 exact ⟨by simpa using hl, fun j hj => h j (List.mem_range.1 hj)⟩
theorem eJ {L : List St} {k : Nat} (hk : k < L.length) (h : cx L k = false) : aB L = false := by
 unfold aB
 have : (List.range L.length).all (cx L) = false := by
  rw [List.all_eq_false]
  exact ⟨k, List.mem_range.2 hk, by rw [h]; simp⟩
 rw [this, Bool.and_false]
theorem rP {L : List St} (hl : 12 < L.length) : aB L = false := by
 unfold aB
 rw [show decide (L.length ≤ 12) = false by simp; omega, Bool.false_and]
theorem aQ {L : List St} (h : aB L = true) : L.length ≤ 12 ∧ kY L L.length := by
 unfold aB at h
 rw [Bool.and_eq_true, List.all_eq_true] at h
 exact ⟨by simpa using h.1, fun j hj => h.2 j (List.mem_range.2 hj)⟩
theorem ck {L : List St} {i : Nat} (h : cx L i = true) : aF (stA L i).2.1 (stA L i).2.2.1 (stA L i).2.2.2 = true := by
 unfold cx at h
 simp only [Bool.and_eq_true] at h
 exact h.1.2.1
theorem bt {x y z : Int} (h : aF x y z = true) : ax x y z = true ∧ az 10 x y z = true := by simpa [aF] using h
theorem pf {a1 a2 a3 b1 b2 b3 : Int} (ha : aF a1 a2 a3 = true) (hb : aF b1 b2 b3 = true) : fw a1 a2 a3 b1 b2 b3 = fw b1 b2 b3 a1 a2 a3 := by
 obtain ⟨ra, wa⟩ := bt ha
 obtain ⟨rb, wb⟩ := bt hb
 obtain ⟨x1, x2, x3⟩ := aH.1 wa
 obtain ⟨y1, y2, y3⟩ := aH.1 wb
 have e1 := iq x2 x3 y2 y3 (by omega)
 have e2 := iq x3 x1 y3 y1 (by omega)
 have e3 := iq x1 x2 y1 y2 (by omega)
 have f1 := iq y2 y3 x2 x3 (by omega)
 have f2 := iq y3 y1 x3 x1 (by omega)
 have f3 := iq y1 y2 x1 x2 (by omega)
 unfold fw
 rw [ra, rb, e1.1, e2.1, e3.1, f1.1, f2.1, f3.1, qg]
 congr 2
 unfold kP
 rw [Int.mul_comm b2, Int.mul_comm b3 a2, Int.mul_comm b3 a1, Int.mul_comm b1 a3, Int.mul_comm b1 a2, Int.mul_comm b2 a1]
 congr 1
 apply propext
 constructor <;> rintro ⟨h1, h2, h3⟩ <;> exact ⟨by omega, by omega, by omega⟩
theorem sB {a1 a2 a3 b1 b2 b3 : Int} (ha : aF a1 a2 a3 = true) (hb : aF b1 b2 b3 = true) :
  (eqI (crW a2 a3 b2 b3) (crW a3 a1 b3 b1) (crW a1 a2 b1 b2) 0 0 0 && decide (0 < aR a1 a2 a3 b1 b2 b3)) = fw a1 a2 a3 b1 b2 b3 := by
 unfold fw
 rw [(bt ha).1, (bt hb).1]
 rfl
def inT (m a b c d : Int) : Bool := inB m a && inB m b && inB m c && inB m d
def eR (a b c d : Int) : Bool := decide (a = 0 ∧ b = 0 ∧ c = 0 ∧ d = 0)
def fT (a b c d : Int) : Int := if a ≠ 0 then a else if b ≠ 0 then b else if c ≠ 0 then c else d
def gT (a b c d : Int) : Int := ((Int.gcd ((Int.gcd a b : Nat) : Int) ((Int.gcd c d : Nat) : Int) : Nat) : Int)
def sT (a b c d : Int) : Int := if fT a b c d < 0 then -gT a b c d else gT a b c d
def aM (a b c d : Int) : Bool := inT 5 a b c d && decide (0 < fT a b c d) && decide (gT a b c d = 1)
def eqT (a b c d a' b' c' d' : Int) : Bool := decide (a = a' ∧ b = b' ∧ c = c' ∧ d = d')
theorem dT {m a b c d : Int} : inT m a b c d = true ↔ (-m ≤ a ∧ a ≤ m) ∧ (-m ≤ b ∧ b ≤ m) ∧ (-m ≤ c ∧ c ≤ m) ∧ (-m ≤ d ∧ d ≤ m) := by
 simp [inT, dS, and_assoc]
theorem nj {m n a b c d : Int} (h : inT m a b c d = true) (hmn : m ≤ n) : inT n a b c d = true := by
 rw [dT] at h ⊢; omega
theorem jy {a b c d : Int} : fT a b c d = 0 ↔ (a = 0 ∧ b = 0 ∧ c = 0 ∧ d = 0) := by
 unfold fT
 split
 ·omega
 ·split
  ·omega
  ·split <;> omega
theorem sZ (a b c d : Int) : fT a b c d = a ∨ fT a b c d = b ∨ fT a b c d = c ∨ fT a b c d = d := by
 unfold fT
 split
 ·exact .inl rfl
 ·split
  ·exact .inr (.inl rfl)
  ·split
   ·exact .inr (.inr (.inl rfl))
   ·exact .inr (.inr (.inr rfl))
theorem qj (a b c d : Int) : 0 ≤ gT a b c d := Int.natCast_nonneg _
theorem tc {a b c d : Int} (h : ¬ (a = 0 ∧ b = 0 ∧ c = 0 ∧ d = 0)) : 0 < gT a b c d := by
 unfold gT
 have h2 : Int.gcd ((Int.gcd a b : Nat) : Int) ((Int.gcd c d : Nat) : Int) ≠ 0 := by
  intro e
  rw [Int.gcd_eq_zero_iff] at e
  have e1 : Int.gcd a b = 0 := by omega
  have e2 : Int.gcd c d = 0 := by omega
  rw [Int.gcd_eq_zero_iff] at e1 e2
  exact h ⟨e1.1, e1.2, e2.1, e2.2⟩
 omega
theorem kd (a b c d : Int) : ((Int.gcd ((Int.gcd ((Int.gcd ((Int.gcd 0 a : Nat) : Int) b : Nat) : Int) c : Nat) : Int) d : Nat) : Int) = gT a b c d := by
 unfold gT
 have h1 : Int.gcd ((Int.gcd 0 a : Nat) : Int) b = Int.gcd a b := by
  rw [Int.gcd_zero_left]
  show Nat.gcd (a.natAbs : Int).natAbs b.natAbs = Nat.gcd a.natAbs b.natAbs
  rw [Int.natAbs_natCast]
 rw [h1]
 show ((Nat.gcd (Nat.gcd (Int.gcd a b) c.natAbs) d.natAbs : Nat) : Int) = ((Nat.gcd (Int.gcd a b) (Nat.gcd c.natAbs d.natAbs) : Nat) : Int)
 rw [Nat.gcd_assoc]
theorem sU {a b c d : Int} (h : ¬ (a = 0 ∧ b = 0 ∧ c = 0 ∧ d = 0)) : sT a b c d ≠ 0 := by
 have := tc h
 unfold sT
 split <;> omega
theorem dX {f s : Int} (hf : f ≠ 0) (h : f.tdiv s = f) : s = 1 := by
 have hn : f.natAbs / s.natAbs = f.natAbs := by
  have e : (f.tdiv s).natAbs = f.natAbs / s.natAbs := Int.natAbs_tdiv f s
  rw [← e, h]
 have h0 : s.natAbs ≠ 0 := by
  intro e
  rw [e, Nat.div_zero] at hn
  omega
 have h1 : s.natAbs < 2 := by
  rcases Nat.lt_or_ge s.natAbs 2 with h | h
  ·exact h
  ·have := Nat.div_lt_self (n := f.natAbs) (k := s.natAbs) (by omega) h
   omega
 rcases (show s = 1 ∨ s = -1 by omega) with e | e
 ·exact e
 ·rw [e, Int.tdiv_neg, Int.tdiv_one] at h
  omega
theorem pR {m x s : Int} (hx : -m ≤ x ∧ x ≤ m) : -m ≤ x.tdiv s ∧ x.tdiv s ≤ m := by
 have h : (x.tdiv s).natAbs ≤ x.natAbs := by rw [Int.natAbs_tdiv]; exact Nat.div_le_self _ _
 omega
theorem kZ {a b c d : Int} (hz : ¬ (a = 0 ∧ b = 0 ∧ c = 0 ∧ d = 0)) :
  eqT a b c d (a.tdiv (sT a b c d)) (b.tdiv (sT a b c d)) (c.tdiv (sT a b c d)) (d.tdiv (sT a b c d)) = (decide (0 < fT a b c d) && decide (gT a b c d = 1)) := by
 have hf : fT a b c d ≠ 0 := fun e => hz (jy.1 e)
 rw [Bool.eq_iff_iff, Bool.and_eq_true, decide_eq_true_iff, decide_eq_true_iff]
 unfold eqT
 rw [decide_eq_true_iff]
 constructor
 ·rintro ⟨h1, h2, h3, h4⟩
  have hs : sT a b c d = 1 := by
   rcases sZ a b c d with e | e | e | e
   ·exact dX (e ▸ hf) h1.symm
   ·exact dX (e ▸ hf) h2.symm
   ·exact dX (e ▸ hf) h3.symm
   ·exact dX (e ▸ hf) h4.symm
  have hg := qj a b c d
  unfold sT at hs
  split at hs <;> omega
 ·rintro ⟨h1, h2⟩
  have hs : sT a b c d = 1 := by unfold sT; rw [if_neg (by omega), h2]
  rw [hs]
  simp [Int.tdiv_one]
theorem de {a b c d : Int} : aM a b c d = true ↔ inT 5 a b c d = true ∧ 0 < fT a b c d ∧ gT a b c d = 1 := by
 simp [aM, and_assoc]
theorem fN {a b c d : Int} (h : aM a b c d = true) : ¬ (a = 0 ∧ b = 0 ∧ c = 0 ∧ d = 0) := by
 have := (de.1 h).2.1
 intro e
 rw [jy.2 e] at this
 omega
def ofC (a b c d : Int) : Int :=
 if inT 1000 a b c d && !eR a b c d then
  if aM (a.tdiv (sT a b c d)) (b.tdiv (sT a b c d)) (c.tdiv (sT a b c d)) (d.tdiv (sT a b c d)) then 0 else 9
 else 1
def ofP (a b c d x : Int) : Int := if ofC a b c d = 0 then x.tdiv (sT a b c d) else 0
theorem rE {a b c d : Int} (h : (inT 1000 a b c d && !eR a b c d) = false) : ofC a b c d = 1 := by unfold ofC; rw [h]; rfl
theorem fX {a b c d : Int} : eR a b c d = true ↔ (a = 0 ∧ b = 0 ∧ c = 0 ∧ d = 0) := by simp [eR]
def nT (a b c d : Int) : Int := a * a + b * b + c * c + d * d
theorem sqn (x : Int) : 0 ≤ x * x := by rw [← Int.natAbs_mul_self' x]; exact Int.natCast_nonneg _
theorem sqp {x : Int} (h : x ≠ 0) : 0 < x * x := by
 have := sqn x
 have : x * x ≠ 0 := fun e => by rcases Int.mul_eq_zero.1 e with e | e <;> exact h e
 omega
theorem oN {a b c d : Int} (h : ¬ (a = 0 ∧ b = 0 ∧ c = 0 ∧ d = 0)) : 0 < nT a b c d := by
 have h1 := sqn a
 have h2 := sqn b
 have h3 := sqn c
 have h4 := sqn d
 unfold nT
 by_cases ha : a = 0
 ·by_cases hb : b = 0
  ·by_cases hc : c = 0
   ·have := sqp (x := d) (fun e => h ⟨ha, hb, hc, e⟩); omega
   ·have := sqp hc; omega
  ·have := sqp hb; omega
 ·have := sqp ha; omega
theorem tt {a b c d : Int} (h : inT 5 a b c d = true) : nT a b c d ≤ 100 := by
 rw [dT] at h
 have h1 := bu h.1 h.1
 have h2 := bu h.2.1 h.2.1
 have h3 := bu h.2.2.1 h.2.2.1
 have h4 := bu h.2.2.2 h.2.2.2
 unfold nT
 omega
def apX (a b c d x y z : Int) : Int := (a * a + b * b - c * c - d * d) * x + 2 * (b * c - a * d) * y + 2 * (b * d + a * c) * z
def apY (a b c d x y z : Int) : Int := 2 * (b * c + a * d) * x + (a * a - b * b + c * c - d * d) * y + 2 * (c * d - a * b) * z
def apZ (a b c d x y z : Int) : Int := 2 * (b * d - a * c) * x + 2 * (c * d + a * b) * y + (a * a - b * b - c * c + d * d) * z
theorem jP (a b c d x y z x' y' z' : Int) :
  dot (apX a b c d x y z) (apY a b c d x y z) (apZ a b c d x y z) (apX a b c d x' y' z') (apY a b c d x' y' z') (apZ a b c d x' y' z') = nT a b c d * nT a b c d * dot x y z x' y' z' := by
 unfold dot apX apY apZ nT
 grind
theorem sM {a b c d x y z : Int} (ht : inT 5 a b c d = true) (hv : az 1800 x y z = true) :
  wrap64 (wrap64 (wrap64 (wrap64 (wrap64 (wrap64 (wrap64 (a * a) + wrap64 (b * b)) - wrap64 (c * c)) - wrap64 (d * d)) * x) + wrap64 (wrap64 (2 * wrap64 (wrap64 (b * c) - wrap64 (a * d))) * y)) + wrap64 (wrap64 (2 * wrap64 (wrap64 (b * d) + wrap64 (a * c))) * z)) = apX a b c d x y z := by
 obtain ⟨ha, hb, hc, hd⟩ := dT.1 ht
 have h1 := bu ha ha
 have h2 := bu hb hb
 have h3 := bu hc hc
 have h4 := bu hd hd
 have h5 := bu hb hc
 have h6 := bu ha hd
 have h7 := bu hb hd
 have h8 := bu ha hc
 rw [au (n := a * a) (by omega) (by omega), au (n := b * b) (by omega) (by omega), au (n := c * c) (by omega) (by omega), au (n := d * d) (by omega) (by omega), au (n := b * c) (by omega) (by omega), au (n := a * d) (by omega) (by omega), au (n := b * d) (by omega) (by omega), au (n := a * c) (by omega) (by omega),
  au (n := a * a + b * b) (by omega) (by omega), au (n := a * a + b * b - c * c) (by omega) (by omega), au (n := a * a + b * b - c * c - d * d) (by omega) (by omega), au (n := b * c - a * d) (by omega) (by omega), au (n := b * d + a * c) (by omega) (by omega), au (n := 2 * (b * c - a * d)) (by omega) (by omega), au (n := 2 * (b * d + a * c)) (by omega) (by omega)]
 exact bN (A := 100) (B := 1800) (aH.2 ⟨by omega, by omega, by omega⟩) hv (by omega)
theorem sN {a b c d x y z : Int} (ht : inT 5 a b c d = true) (hv : az 1800 x y z = true) :
  wrap64 (wrap64 (wrap64 (wrap64 (2 * wrap64 (wrap64 (b * c) + wrap64 (a * d))) * x) + wrap64 (wrap64 (wrap64 (wrap64 (wrap64 (a * a) - wrap64 (b * b)) + wrap64 (c * c)) - wrap64 (d * d)) * y)) + wrap64 (wrap64 (2 * wrap64 (wrap64 (c * d) - wrap64 (a * b))) * z)) = apY a b c d x y z := by
 obtain ⟨ha, hb, hc, hd⟩ := dT.1 ht
 have h1 := bu ha ha
 have h2 := bu hb hb
 have h3 := bu hc hc
 have h4 := bu hd hd
 have h5 := bu hb hc
 have h6 := bu ha hd
 have h7 := bu hc hd
 have h8 := bu ha hb
 rw [au (n := a * a) (by omega) (by omega), au (n := b * b) (by omega) (by omega), au (n := c * c) (by omega) (by omega), au (n := d * d) (by omega) (by omega), au (n := b * c) (by omega) (by omega), au (n := a * d) (by omega) (by omega), au (n := c * d) (by omega) (by omega), au (n := a * b) (by omega) (by omega),
  au (n := a * a - b * b) (by omega) (by omega), au (n := a * a - b * b + c * c) (by omega) (by omega), au (n := a * a - b * b + c * c - d * d) (by omega) (by omega), au (n := b * c + a * d) (by omega) (by omega), au (n := c * d - a * b) (by omega) (by omega), au (n := 2 * (b * c + a * d)) (by omega) (by omega), au (n := 2 * (c * d - a * b)) (by omega) (by omega)]
 exact bN (A := 100) (B := 1800) (aH.2 ⟨by omega, by omega, by omega⟩) hv (by omega)
theorem sO {a b c d x y z : Int} (ht : inT 5 a b c d = true) (hv : az 1800 x y z = true) :
  wrap64 (wrap64 (wrap64 (wrap64 (2 * wrap64 (wrap64 (b * d) - wrap64 (a * c))) * x) + wrap64 (wrap64 (2 * wrap64 (wrap64 (c * d) + wrap64 (a * b))) * y)) + wrap64 (wrap64 (wrap64 (wrap64 (wrap64 (a * a) - wrap64 (b * b)) - wrap64 (c * c)) + wrap64 (d * d)) * z)) = apZ a b c d x y z := by
 obtain ⟨ha, hb, hc, hd⟩ := dT.1 ht
 have h1 := bu ha ha
 have h2 := bu hb hb
 have h3 := bu hc hc
 have h4 := bu hd hd
 have h5 := bu hb hd
 have h6 := bu ha hc
 have h7 := bu hc hd
 have h8 := bu ha hb
 rw [au (n := a * a) (by omega) (by omega), au (n := b * b) (by omega) (by omega), au (n := c * c) (by omega) (by omega), au (n := d * d) (by omega) (by omega), au (n := b * d) (by omega) (by omega), au (n := a * c) (by omega) (by omega), au (n := c * d) (by omega) (by omega), au (n := a * b) (by omega) (by omega),
  au (n := a * a - b * b) (by omega) (by omega), au (n := a * a - b * b - c * c) (by omega) (by omega), au (n := a * a - b * b - c * c + d * d) (by omega) (by omega), au (n := b * d - a * c) (by omega) (by omega), au (n := c * d + a * b) (by omega) (by omega), au (n := 2 * (b * d - a * c)) (by omega) (by omega), au (n := 2 * (c * d + a * b)) (by omega) (by omega)]
 exact bN (A := 100) (B := 1800) (aH.2 ⟨by omega, by omega, by omega⟩) hv (by omega)
def apR (a b c d x y z : Int) : Bool := aM a b c d && aO x y z
def apI (r : Bool) (v : Int) : Int := if r then v else 0
theorem qN {x m : Int} (hm : 0 ≤ m) (h : x * x ≤ m * m) : -m ≤ x ∧ x ≤ m := by
 have h1 : x.natAbs * x.natAbs ≤ m.natAbs * m.natAbs := by
  have e1 := Int.natAbs_mul_self' x
  have e2 := Int.natAbs_mul_self' m
  omega
 have := Nat.mul_self_le_mul_self_iff.1 h1
 omega
theorem qP {a b c d x y z D M : Int} (ht : aM a b c d = true) (hD : dot x y z x y z ≤ D) (hM : 0 ≤ M) (h : 10000 * D ≤ M * M) : az M (apX a b c d x y z) (apY a b c d x y z) (apZ a b c d x y z) = true := by
 have hn := tt (de.1 ht).1
 have hp := oN (fN ht)
 have hn2 := bu (A := 100) (B := 100) (a := nT a b c d) (b := nT a b c d) (by omega) (by omega)
 have hd := jP a b c d x y z x y z
 have h0 : 0 ≤ dot x y z x y z := by have h1 := sqn x; have h2 := sqn y; have h3 := sqn z; unfold dot; omega
 have hm := bu (A := 10000) (B := D) (a := nT a b c d * nT a b c d) (b := dot x y z x y z) (by omega) (by omega)
 have s1 := sqn (apX a b c d x y z)
 have s2 := sqn (apY a b c d x y z)
 have s3 := sqn (apZ a b c d x y z)
 have hdd : dot (apX a b c d x y z) (apY a b c d x y z) (apZ a b c d x y z) (apX a b c d x y z) (apY a b c d x y z) (apZ a b c d x y z) = apX a b c d x y z * apX a b c d x y z + apY a b c d x y z * apY a b c d x y z + apZ a b c d x y z * apZ a b c d x y z := rfl
 rw [aH]
 exact ⟨qN hM (by omega), qN hM (by omega), qN hM (by omega)⟩
theorem tq {a b c d x y z : Int} (ht : aM a b c d = true) (hz : ¬ (x = 0 ∧ y = 0 ∧ z = 0)) : ¬ (apX a b c d x y z = 0 ∧ apY a b c d x y z = 0 ∧ apZ a b c d x y z = 0) := by
 rintro ⟨h1, h2, h3⟩
 have hp := oN (fN ht)
 have hd := jP a b c d x y z x y z
 rw [h1, h2, h3] at hd
 have := Int.mul_pos (Int.mul_pos hp hp) (kG hz)
 rw [← hd] at this
 exact absurd this (by decide)
theorem rL {M x y z : Int} (hM : M ≤ 1000000) (h : az M x y z = true) (hz : ¬ (x = 0 ∧ y = 0 ∧ z = 0)) : ax x y z = true := by
 rw [aH] at h
 rw [bv]
 exact ⟨by omega, hz⟩
theorem sL {x y z : Int} (h : az 1800 x y z = true) (hz : ¬ (x = 0 ∧ y = 0 ∧ z = 0)) : aO x y z = true := by
 unfold aO
 rw [rL (by omega) h hz, h]; rfl
theorem qH {k x : Int} (hk : 0 < k) : ssq (k * x) = k * k * ssq x := by
 unfold ssq
 by_cases h : x < 0
 ·rw [if_pos h, if_pos (Int.mul_neg_of_pos_of_neg hk h)]; grind
 ·rw [if_neg h, if_neg (by have := Int.mul_nonneg (Int.le_of_lt hk) (by omega : 0 ≤ x); omega)]; grind
theorem qe {a b c d x y z x' y' z' : Int} (ht : aM a b c d = true) :
  dH (apX a b c d x y z) (apY a b c d x y z) (apZ a b c d x y z) (apX a b c d x' y' z') (apY a b c d x' y' z') (apZ a b c d x' y' z') x y z x' y' z' = 0 := by
 have hp := oN (fN ht)
 unfold dH
 split
 ·rw [jP, jP, jP, qH (Int.mul_pos hp hp)]
  have : nT a b c d * nT a b c d * (nT a b c d * nT a b c d) * ssq (dot x y z x' y' z') * (dot x y z x y z * dot x' y' z' x' y' z') = ssq (dot x y z x' y' z') * (nT a b c d * nT a b c d * dot x y z x y z * (nT a b c d * nT a b c d * dot x' y' z' x' y' z')) := by
   generalize nT a b c d = n
   generalize ssq (dot x y z x' y' z') = s
   generalize dot x y z x y z = p
   generalize dot x' y' z' x' y' z' = q
   grind
  rw [this]
  simp [bS]
 ·rfl
theorem nX {x y z : Int} (h : aF x y z = true) : aO x y z = true := by
 obtain ⟨h1, h2⟩ := bt h
 unfold aO
 rw [h1, Bool.true_and, aH]
 rw [aH] at h2
 omega
def apD (a b c d : Int) (v : D3) : D3 := (apX a b c d v.1 v.2.1 v.2.2, apY a b c d v.1 v.2.1 v.2.2, apZ a b c d v.1 v.2.1 v.2.2)
end
section
open Go.RowKit
theorem yz {p : Prop} (h : p) : Hid p := h
theorem yy {p : Prop} (h : Hid p) : p := h
def step (r : Nat) : Nat := if r % 2 = 1 then (r / 2) ^^^ 3988292384 else r / 2
def dv : Nat → Nat → Nat
 | 0, r => r
 | k + 1, r => step (dv k r)
def bW : Nat → Nat → Nat → Nat
 | 0, r, _ => r
 | k + 1, r, b => if (bW k r b ^^^ (b / 2 ^ k)) % 2 = 1 then (bW k r b / 2) ^^^ 3988292384 else bW k r b / 2
def fE (r b : Nat) : Nat := dv 8 (r ^^^ b)
theorem se (a b : Nat) : (a ^^^ b) / 2 = (a / 2) ^^^ (b / 2) := by
 apply Nat.eq_of_testBit_eq; intro i
 simp [Nat.testBit_xor, ← Nat.testBit_succ]
theorem oc (k r b : Nat) : dv k (r ^^^ b) = bW k r b ^^^ (b / 2 ^ k) := by
 induction k with
 | zero => simp [dv, bW]
 | succ k ih =>
  have e : b / 2 ^ (k + 1) = b / 2 ^ k / 2 := by rw [Nat.pow_succ, Nat.div_div_eq_div_mul]
  simp only [dv, step, bW, ih, e, se]
  by_cases h : (bW k r b ^^^ b / 2 ^ k) % 2 = 1
  ·simp only [h, if_true]
   rw [Nat.xor_assoc, Nat.xor_assoc, Nat.xor_comm (b / 2 ^ k / 2)]
  ·simp only [h, if_false]
theorem st (r b : Nat) (hb : b < 256) : bW 8 r b = fE r b := by
 have h := oc 8 r b
 rw [show b / 2 ^ 8 = 0 by omega, Nat.xor_zero] at h
 exact h.symm
theorem cq {a b : Nat} (ha : a < 4294967296) (hb : b < 4294967296) : a ^^^ b < 4294967296 := Nat.xor_lt_two_pow (n := 32) ha hb
theorem sG {r : Nat} (h : r < 4294967296) : step r < 4294967296 := by
 unfold step
 split
 ·exact cq (by omega) (by omega)
 ·omega
theorem od (k : Nat) {r : Nat} (h : r < 4294967296) : dv k r < 4294967296 := by
 induction k with
 | zero => exact h
 | succ k ih => exact sG ih
theorem rm (k b : Nat) {r : Nat} (h : r < 4294967296) : bW k r b < 4294967296 := by
 induction k with
 | zero => exact h
 | succ k ih =>
  unfold bW
  split
  ·exact cq (by omega) (by omega)
  ·omega
theorem oz {r b : Nat} (h : r < 4294967296) (hb : b < 256) : fE r b < 4294967296 := od 8 (cq h (by omega))
def bD (s : ByteArray) (i : Nat) : Nat := if h : i < s.size then s[i].toNat else 0
theorem bY {s : ByteArray} {k : Nat} (h : k < s.size) : bD s k = s[k].toNat := by simp [bD, h]
theorem io (s : ByteArray) (k : Nat) : bD s k < 256 := by
 unfold bD
 split
 ·exact UInt8.toNat_lt _
 ·omega
def dy (s : ByteArray) (r : Nat) : Nat → Nat
 | 0 => r
 | k + 1 => fE (dy s r k) (bD s k)
theorem jU (s : ByteArray) {r : Nat} (h : r < 4294967296) (k : Nat) : dy s r k < 4294967296 := by
 induction k with
 | zero => exact h
 | succ k ih => exact oz ih (io s k)
def dQ (c : Nat) (s : ByteArray) : Nat := dy s (c ^^^ 4294967295) s.size ^^^ 4294967295
theorem gJ {c : Nat} (s : ByteArray) (h : c < 4294967296) : dQ c s < 4294967296 := cq (jU s (cq h (by omega)) _) (by omega)
theorem mK (a : Nat) (ha : a < 4294967296) : bits .and .u32 (a : Int) 1 = ((a % 2 : Nat) : Int) := by
 have h := u32_and_nat a 1 ha (by omega)
 rw [nat_mask1] at h
 exact h
theorem sw (x b k : Nat) (hx : x < 4294967296) (hb : b < 256) :
  bits .and .u32 (bits .xor .u32 (x : Int) ((b : Int) / 2 ^ k % 4294967296)) 1 = (((x ^^^ (b / 2 ^ k)) % 2 : Nat) : Int) := by
 have e : ((b : Int) / 2 ^ k % 4294967296) = ((b / 2 ^ k : Nat) : Int) := by
  have hle : b / 2 ^ k ≤ b := Nat.div_le_self _ _
  have : ((b : Int) / 2 ^ k) = ((b / 2 ^ k : Nat) : Int) := by push_cast; rfl
  rw [this]; clear this; generalize b / 2 ^ k = q at *; omega
 have hle : b / 2 ^ k ≤ b := Nat.div_le_self _ _
 rw [e, u32_xor_nat x (b / 2 ^ k) hx (by omega), mK _ (cq hx (by omega))]
theorem tp (x : Nat) (h : x < 4294967296) : bits .xor .u32 (x : Int) 4294967295 = ((x ^^^ 4294967295 : Nat) : Int) := u32_xor_nat x 4294967295 h (by omega)
theorem sI : IntKind.u32.max = 4294967295 := by decide
theorem sd (x : Nat) (h : x < 4294967296) : bits .xor .u32 IntKind.u32.max (x : Int) = ((x ^^^ 4294967295 : Nat) : Int) := by
 rw [sI, Nat.xor_comm]
 exact u32_xor_nat 4294967295 x (by omega) h
theorem kO (x : Nat) (h : x < 4294967296) : wrap64 (x : Int) = (x : Int) := by
 unfold wrap64
 omega
end
section
open Go.RowKit
theorem am (w : World) (a : Obj) : Below w.heap.size w (w.alloc a) := (Below.refl _ _).alloc (Nat.le_refl _) _
theorem be (w : World) (a b : Obj) : Below w.heap.size w ((w.alloc a).alloc b) := (am w a).alloc (by simp) _
theorem fk (w : World) (a b c : Obj) : Below w.heap.size w (((w.alloc a).alloc b).alloc c) := (be w a b).alloc (by simp; omega) _
theorem ak {w w1 w2 : World} (h : Below w.heap.size w w1) (h2 : Below w1.heap.size w1 w2) : Below w.heap.size w w2 := h.trans (h2.mono h.size)
theorem iH (x y z : Int) (w : World) :
  Calls Tryz.prog 79 #[.agg #[.int .i64 x, .int .i64 y, .int .i64 z]] w fun e w' => e = .returned (.agg #[.int .i64 x, .int .i64 y, .int .i64 z]) ∧ Below w.heap.size w w' := by
 go_enter Tryz.func79, Tryz.ntmps79
 go_wp2
 exact bodyPost_ret (v := .agg #[.int .i64 x, .int .i64 y, .int .i64 z]) (by simp [results, Tryz.results79, go_sem]) rfl ⟨rfl, be _ _ _⟩
theorem lO (a1 a2 a3 b1 b2 b3 : Int) (w : World) :
  Calls Tryz.prog 106 #[.agg #[.int .i64 a1, .int .i64 a2, .int .i64 a3], .agg #[.int .i64 b1, .int .i64 b2, .int .i64 b3]] w fun e w' => e = .returned (.int .i64 (aR a1 a2 a3 b1 b2 b3)) ∧ Below w.heap.size w w' := by
 go_enter Tryz.func106, Tryz.ntmps106
 go_wp2
 go_ret
 exact ⟨rfl, be _ _ _⟩
theorem dD (a1 a2 a3 b1 b2 b3 : Int) (w : World) :
  Calls Tryz.prog 98 #[.agg #[.int .i64 a1, .int .i64 a2, .int .i64 a3], .agg #[.int .i64 b1, .int .i64 b2, .int .i64 b3]] w fun e w' => e = .returned (.int .i64 (aR a1 a2 a3 b1 b2 b3)) ∧ Below w.heap.size w w' := by
 go_enter Tryz.func98, Tryz.ntmps98
 go_wp2
 go_ret
 exact ⟨rfl, be _ _ _⟩
theorem bF (n lo hi : Int) (w : World) :
  Calls Tryz.prog 51 #[.int .i64 n, .int .i64 lo, .int .i64 hi] w fun e w' => e = .returned (.bool (decide (lo ≤ n) && decide (n ≤ hi))) ∧ w' = w := by
 by_cases h : lo ≤ n
 ·go_enter Tryz.func51, Tryz.ntmps51
  go_wp2
  go_ret
  exact ⟨by simp [h], rfl⟩
 ·go_enter Tryz.func51, Tryz.ntmps51
  go_wp2
  go_ret
  exact ⟨by simp; omega, rfl⟩
theorem hG {m x : Int} (h : ¬ (-m ≤ x ∧ x ≤ m)) : inB m x = false := by simpa [inB] using h
theorem gD (m x y z : Int) (w : World) (hm0 : 0 ≤ m) (hm : m ≤ 1000000) :
  Calls Tryz.prog 102 #[.agg #[.int .i64 x, .int .i64 y, .int .i64 z], .int .i64 m] w fun e w' => e = .returned (.bool (az m x y z)) ∧ Below w.heap.size w w' := by
 have i0 : ∀ w : World, (Instr.index 104 (.agg #[.int .i64 x, .int .i64 y, .int .i64 z]) (.int .i64 0)).run Tryz.prog w = .ok (.int .i64 x) w := fun _ => by kernel_rfl
 have i1 : ∀ w : World, (Instr.index 104 (.agg #[.int .i64 x, .int .i64 y, .int .i64 z]) (.int .i64 1)).run Tryz.prog w = .ok (.int .i64 y) w := fun _ => by kernel_rfl
 have i2 : ∀ w : World, (Instr.index 104 (.agg #[.int .i64 x, .int .i64 y, .int .i64 z]) (.int .i64 2)).run Tryz.prog w = .ok (.int .i64 z) w := fun _ => by kernel_rfl
 have hwr : wrap64 (-m) = -m := au (by omega) (by omega)
 go_enter Tryz.func102, Tryz.ntmps102
 go_wp2_with fail
 refine (iH x y z _).mono ?_
 rintro e w1 ⟨rfl, hB1⟩
 have hB : Below w.heap.size w w1 := ak (am _ _) hB1
 clear hB1
 go_wp2_with fail
 go_loop [9] (fun i => ∃ k : Nat, k ≤ 3 ∧ i = .int .i64 k ∧ Hid (0 < k → inB m x = true) ∧ Hid (1 < k → inB m y = true) ∧ Hid (2 < k → inB m z = true)) (fun i => 3 - (intOf i).toNat)
 case atStart => exact ⟨0, Nat.zero_le _, rfl, yz (by omega), yz (by omega), yz (by omega)⟩
 case round =>
  obtain ⟨k, hk, rfl, hx, hy, hz⟩ := hrel
  have hk4 : k = 0 ∨ k = 1 ∨ k = 2 ∨ k = 3 := by omega
  rcases hk4 with rfl | rfl | rfl | rfl
  ·by_cases q1 : -m ≤ x
   ·by_cases q2 : x ≤ m
    ·have HI := yz (dS.2 ⟨q1, q2⟩)
     go_wp2
     go_round
     case rel => exact ⟨1, by omega, rfl, yz (fun _ => yy HI), yz (by omega), yz (by omega)⟩
     case measure => simp [intOf]
    ·have HO := yz (hG (m := m) (x := x) (fun h => q2 h.2))
     go_wp2
     go_ret
     exact ⟨by simp [az, yy HO], hB⟩
   ·have HO := yz (hG (m := m) (x := x) (fun h => q1 h.1))
    go_wp2
    go_ret
    exact ⟨by simp [az, yy HO], hB⟩
  ·by_cases q1 : -m ≤ y
   ·by_cases q2 : y ≤ m
    ·have HI := yz (dS.2 ⟨q1, q2⟩)
     go_wp2
     go_round
     case rel => exact ⟨2, by omega, rfl, yz (fun _ => yy hx (by omega)), yz (fun _ => yy HI), yz (by omega)⟩
     case measure => simp [intOf]
    ·have HO := yz (hG (m := m) (x := y) (fun h => q2 h.2))
     go_wp2
     go_ret
     exact ⟨by simp [az, yy HO], hB⟩
   ·have HO := yz (hG (m := m) (x := y) (fun h => q1 h.1))
    go_wp2
    go_ret
    exact ⟨by simp [az, yy HO], hB⟩
  ·by_cases q1 : -m ≤ z
   ·by_cases q2 : z ≤ m
    ·have HI := yz (dS.2 ⟨q1, q2⟩)
     go_wp2
     go_round
     case rel => exact ⟨3, by omega, rfl, yz (fun _ => yy hx (by omega)), yz (fun _ => yy hy (by omega)), yz (fun _ => yy HI)⟩
     case measure => simp [intOf]
    ·have HO := yz (hG (m := m) (x := z) (fun h => q2 h.2))
     go_wp2
     go_ret
     exact ⟨by simp [az, yy HO], hB⟩
   ·have HO := yz (hG (m := m) (x := z) (fun h => q1 h.1))
    go_wp2
    go_ret
    exact ⟨by simp [az, yy HO], hB⟩
  ·go_wp2
   go_ret
   exact ⟨by simp [az, yy hx (by omega), yy hy (by omega), yy hz (by omega)], hB⟩
def eqB (a1 a2 a3 b1 b2 b3 : Int) : Bool := decide (a1 = b1 ∧ a2 = b2 ∧ a3 = b3)
theorem lq (a1 a2 a3 b1 b2 b3 : Int) (w : World) : (Op.equalIn 10000 33 (.agg #[.int .i64 a1, .int .i64 a2, .int .i64 a3]) (.agg #[.int .i64 b1, .int .i64 b2, .int .i64 b3])).run Tryz.prog w = .ok (eqB a1 a2 a3 b1 b2 b3) w := by
 have h := run_equalIn_struct (P := Tryz.prog) w 9999 33 #[.int .i64 a1, .int .i64 a2, .int .i64 a3] #[.int .i64 b1, .int .i64 b2, .int .i64 b3] (by kernel_rfl) (by kernel_rfl)
 have hf : (Tryz.prog.fieldsOf 33).toList = (Tryz.prog.fieldsOf 33).toList := rfl
 refine h.trans ?_
 by_cases h1 : a1 = b1
 ·by_cases h2 : a2 = b2
  ·by_cases h3 : a3 = b3
   ·simp [go_sem, eqB, h1, h2, h3]
   ·simp [go_sem, eqB, h1, h2, h3]
  ·simp [go_sem, eqB, h1, h2]
 ·simp [go_sem, eqB, h1]
theorem fL (a1 a2 a3 b1 b2 b3 : Int) (w : World) : (binOp .neq 33 (.agg #[.int .i64 a1, .int .i64 a2, .int .i64 a3]) (.agg #[.int .i64 b1, .int .i64 b2, .int .i64 b3])).run Tryz.prog w = .ok (.bool (!eqB a1 a2 a3 b1 b2 b3)) w := by
 rw [run_neq_struct, lq]; rfl
theorem py (a1 a2 a3 b1 b2 b3 : Int) (w : World) : (binOp .eql 33 (.agg #[.int .i64 a1, .int .i64 a2, .int .i64 a3]) (.agg #[.int .i64 b1, .int .i64 b2, .int .i64 b3])).run Tryz.prog w = .ok (.bool (eqB a1 a2 a3 b1 b2 b3)) w := by
 rw [run_eql_struct, lq]; rfl
theorem bR (x y z : Int) (w : World) :
  Calls Tryz.prog 101 #[.agg #[.int .i64 x, .int .i64 y, .int .i64 z]] w fun e w' => e = .returned (.bool (ax x y z)) ∧ Below w.heap.size w w' := by
 have hn := fun w => fL x y z 0 0 0 w
 cases hz : eqB x y z 0 0 0
 ·rw [hz] at hn
  have HR : Hid (ax x y z = az 1000000 x y z) := yz (by unfold ax; rw [show kP x y z = false from hz]; simp)
  go_enter Tryz.func101, Tryz.ntmps101
  go_wp2_with fail
  refine (gD 1000000 x y z _ (by omega) (by omega)).mono ?_
  rintro e w1 ⟨rfl, hB1⟩
  have hB : Below w.heap.size w w1 := ak (am _ _) hB1
  clear hB1
  go_wp2_with fail
  go_ret
  exact ⟨by rw [yy HR]; rfl, hB⟩
 ·rw [hz] at hn
  have HR : Hid (ax x y z = false) := yz (by unfold ax; rw [show kP x y z = true from hz]; simp)
  go_enter Tryz.func101, Tryz.ntmps101
  go_wp2_with fail
  go_ret
  exact ⟨by rw [yy HR]; rfl, am _ _⟩
theorem isB (m x : Int) : (decide (-m ≤ x) && decide (x ≤ m)) = inB m x := by unfold inB; rw [Bool.decide_and]
theorem cJ (m x y z : Int) (w : World) (hm0 : 0 ≤ m) (hm : m ≤ 1000000) :
  Calls Tryz.prog 53 #[.agg #[.int .i64 x, .int .i64 y, .int .i64 z], .int .i64 m] w fun e w' => e = .returned (.bool (az m x y z)) ∧ Below w.heap.size w w' := by
 have hwr : wrap64 (-m) = -m := au (by omega) (by omega)
 go_enter Tryz.func53, Tryz.ntmps53
 go_wp2_with fail
 refine (bF x (-m) m _).mono ?_
 rintro e w1 ⟨rfl, rfl⟩
 rw [isB]
 cases hx : inB m x
 ·go_wp2_with fail
  go_ret
  exact ⟨by simp [az, hx], am _ _⟩
 ·go_wp2_with fail
  refine (bF y (-m) m _).mono ?_
  rintro e w1 ⟨rfl, rfl⟩
  rw [isB]
  cases hy : inB m y
  ·go_wp2_with fail
   go_ret
   exact ⟨by simp [az, hy], am _ _⟩
  ·go_wp2_with fail
   refine (bF z (-m) m _).mono ?_
   rintro e w1 ⟨rfl, rfl⟩
   rw [isB]
   go_wp2_with fail
   go_ret
   exact ⟨by simp [az, hx, hy], am _ _⟩
theorem cY (x y z : Int) (w : World) :
  Calls Tryz.prog 52 #[.agg #[.int .i64 x, .int .i64 y, .int .i64 z]] w fun e w' => e = .returned (.bool (ax x y z)) ∧ Below w.heap.size w w' := by
 have hn := fun w => fL x y z 0 0 0 w
 go_enter Tryz.func52, Tryz.ntmps52
 go_wp2_with fail
 refine (cJ 1000000 x y z _ (by omega) (by omega)).mono ?_
 rintro e w1 ⟨rfl, hB1⟩
 have hB : Below w.heap.size w w1 := ak (am _ _) hB1
 have hc : ∀ i : Nat, w1.cell? ⟨w.heap.size, i, none⟩ = _ := fun i => hB1.cell (p := ⟨w.heap.size, i, none⟩) (by simp)
 have c0 := hc 0
 have c1 := hc 1
 have c2 := hc 2
 simp at c0 c1 c2
 clear hB1 hc
 cases hx : az 1000000 x y z
 ·go_wp2_with fail
  go_ret
  exact ⟨by simp [ax, hx], hB⟩
 ·go_wp2_with fail
  go_ret
  exact ⟨by simp [ax, hx]; rfl, hB⟩
def av (w : World) (b : Nat) (x y z : Int) : Prop := w.cell? ⟨b, 0, none⟩ = some (.int .i64 x) ∧ w.cell? ⟨b, 1, none⟩ = some (.int .i64 y) ∧ w.cell? ⟨b, 2, none⟩ = some (.int .i64 z)
def bd (w : World) (b : Nat) : Prop := w.frozen? ⟨b, 0, none⟩ = false ∧ w.frozen? ⟨b, 1, none⟩ = false ∧ w.frozen? ⟨b, 2, none⟩ = false
theorem av.kept {w w' : World} {b : Nat} {x y z : Int} (h : av w b x y z) (hb : b < w.heap.size) (hB : Below w.heap.size w w') : av w' b x y z := by
 obtain ⟨h0, h1, h2⟩ := h
 exact ⟨by rw [hB.cell (p := ⟨b, 0, none⟩) hb]; exact h0, by rw [hB.cell (p := ⟨b, 1, none⟩) hb]; exact h1, by rw [hB.cell (p := ⟨b, 2, none⟩) hb]; exact h2⟩
theorem bd.kept {w w' : World} {b : Nat} (h : bd w b) (hb : b < w.heap.size) (hB : Below w.heap.size w w') : bd w' b := by
 obtain ⟨h0, h1, h2⟩ := h
 exact ⟨by rw [hB.frozen (p := ⟨b, 0, none⟩) hb]; exact h0, by rw [hB.frozen (p := ⟨b, 1, none⟩) hb]; exact h1, by rw [hB.frozen (p := ⟨b, 2, none⟩) hb]; exact h2⟩
theorem aw (w : World) (x y z : Int) (t : TypeId) : av (w.alloc (.cells #[.int .i64 x, .int .i64 y, .int .i64 z] t)) w.heap.size x y z := by
 refine ⟨?_, ?_, ?_⟩ <;> simp
theorem aV (w : World) (x y z : Int) (t : TypeId) : bd (w.alloc (.cells #[.int .i64 x, .int .i64 y, .int .i64 z] t)) w.heap.size := by
 refine ⟨?_, ?_, ?_⟩ <;> simp
theorem av.alloc {w : World} {b : Nat} {x y z : Int} (h : av w b x y z) (hb : b < w.heap.size) (o : Obj) : av (w.alloc o) b x y z := h.kept hb (am _ _)
theorem aJ {w w1 : World} {b : Nat} (h : Below w.heap.size w w1) (hb : w.heap.size ≤ b) (x y z : Value) : Below w.heap.size w (((w1.setCell ⟨b, 0, none⟩ x).setCell ⟨b, 1, none⟩ y).setCell ⟨b, 2, none⟩ z) := ((h.setCell hb _).setCell hb _).setCell hb _
theorem qR (w : World) (a b c d : Obj) : Below w.heap.size w ((((w.alloc a).alloc b).alloc c).alloc d) := (fk w a b c).alloc (by simp; omega) _
theorem lW (a1 a2 a3 b1 b2 b3 : Int) (w : World) :
  Calls Tryz.prog 69 #[.agg #[.int .i64 a1, .int .i64 a2, .int .i64 a3], .agg #[.int .i64 b1, .int .i64 b2, .int .i64 b3]] w fun e w' => e = .returned (.int .i64 (lV a1 a2 a3 b1 b2 b3)) ∧ Below w.heap.size w w' := by
 go_enter Tryz.func69, Tryz.ntmps69
 go_wp2_with fail
 refine (bR a1 a2 a3 _).mono ?_
 rintro e w1 ⟨rfl, hB1⟩
 have hB : Below w.heap.size w w1 := ak (be _ _ _) hB1
 have hs : w.heap.size + 2 ≤ w1.heap.size := by have := hB1.size; simpa [Nat.add_assoc] using this
 have va : av w1 w.heap.size a1 a2 a3 := ((by simpa using aw w a1 a2 a3 _ : av _ w.heap.size a1 a2 a3).alloc (by simp) _).kept (by simp; omega) hB1
 have vb : av w1 (w.heap.size + 1) b1 b2 b3 := (by simpa using aw (w.alloc _) b1 b2 b3 _ : av _ (w.heap.size + 1) b1 b2 b3).kept (by simp) hB1
 clear hB1
 have hva := va
 obtain ⟨ca0, ca1, ca2⟩ := va
 have hvb := vb
 obtain ⟨cb0, cb1, cb2⟩ := vb
 cases ha : ax a1 a2 a3
 ·go_wp2_with fail
  go_ret
  exact ⟨by simp [lV, ha], hB⟩
 ·go_wp2_with fail
  refine (bR b1 b2 b3 _).mono ?_
  rintro e w2 ⟨rfl, hB2⟩
  have va := hva.kept (by omega) hB2
  have vb := hvb.kept (by omega) hB2
  replace hs : w.heap.size + 2 ≤ w2.heap.size := by have := hB2.size; omega
  replace hB : Below w.heap.size w w2 := ak hB hB2
  clear hva ca0 ca1 ca2 hvb cb0 cb1 cb2
  clear hB2
  have hva := va
  obtain ⟨ca0, ca1, ca2⟩ := va
  have hvb := vb
  obtain ⟨cb0, cb1, cb2⟩ := vb
  cases hb : ax b1 b2 b3
  ·go_wp2_with fail
   go_ret
   exact ⟨by simp [lV, hb], hB⟩
  ·go_wp2_with fail
   refine (lO a1 a2 a3 b1 b2 b3 _).mono ?_
   rintro e w3 ⟨rfl, hB3⟩
   go_wp2_with fail
   go_ret
   exact ⟨by simp [lV, ha, hb], ak hB hB3⟩
theorem qf (a1 a2 a3 b1 b2 b3 : Int) (w : World) :
  Calls Tryz.prog 117 #[.agg #[.int .i64 a1, .int .i64 a2, .int .i64 a3], .agg #[.int .i64 b1, .int .i64 b2, .int .i64 b3]] w fun e w' => e = .returned (.agg #[.int .i64 (crI (ax a1 a2 a3 && ax b1 b2 b3) a2 a3 b2 b3), .int .i64 (crI (ax a1 a2 a3 && ax b1 b2 b3) a3 a1 b3 b1), .int .i64 (crI (ax a1 a2 a3 && ax b1 b2 b3) a1 a2 b1 b2)]) ∧ Below w.heap.size w w' := by
 go_enter Tryz.func117, Tryz.ntmps117
 go_wp2_with fail
 refine (bR a1 a2 a3 _).mono ?_
 rintro e w1 ⟨rfl, hB1⟩
 have hB : Below w.heap.size w w1 := ak (fk _ _ _ _) hB1
 have hs : w.heap.size + 3 ≤ w1.heap.size := by have := hB1.size; simpa [Nat.add_assoc] using this
 have va : av w1 w.heap.size a1 a2 a3 := (((by simpa using aw w a1 a2 a3 _ : av _ w.heap.size a1 a2 a3).alloc (by simp) _).alloc (by simp; omega) _).kept (by simp; omega) hB1
 have vb : av w1 (w.heap.size + 1) b1 b2 b3 := ((by simpa using aw (w.alloc _) b1 b2 b3 _ : av _ (w.heap.size + 1) b1 b2 b3).alloc (by simp) _).kept (by simp) hB1
 have vr : av w1 (w.heap.size + 1 + 1) 0 0 0 := (by simpa using aw ((w.alloc _).alloc _) 0 0 0 _ : av _ (w.heap.size + 1 + 1) 0 0 0).kept (by simp) hB1
 have fr : bd w1 (w.heap.size + 1 + 1) := (by simpa using aV ((w.alloc _).alloc _) 0 0 0 _ : bd _ (w.heap.size + 1 + 1)).kept (by simp) hB1
 clear hB1
 have hva := va
 obtain ⟨ca0, ca1, ca2⟩ := va
 have hvb := vb
 obtain ⟨cb0, cb1, cb2⟩ := vb
 have hvr := vr
 have hfr := fr
 obtain ⟨cr0, cr1, cr2⟩ := vr
 obtain ⟨fr0, fr1, fr2⟩ := fr
 cases ha : ax a1 a2 a3
 ·go_wp2_with fail
  exact bodyPost_ret (v := .agg #[.int .i64 0, .int .i64 0, .int .i64 0]) (by simp [results, Tryz.results117, go_sem, cr0, cr1, cr2]) rfl ⟨by simp [crI, ha], aJ hB (by omega) _ _ _⟩
 ·go_wp2_with fail
  refine (bR b1 b2 b3 _).mono ?_
  rintro e w2 ⟨rfl, hB2⟩
  have va := hva.kept (by omega) hB2
  have vb := hvb.kept (by omega) hB2
  have vr := hvr.kept (by omega) hB2
  have fr := hfr.kept (by omega) hB2
  replace hs : w.heap.size + 3 ≤ w2.heap.size := by have := hB2.size; omega
  replace hB : Below w.heap.size w w2 := ak hB hB2
  clear hva ca0 ca1 ca2 hvb cb0 cb1 cb2 hvr hfr cr0 cr1 cr2 fr0 fr1 fr2
  clear hB2
  have hva := va
  obtain ⟨ca0, ca1, ca2⟩ := va
  have hvb := vb
  obtain ⟨cb0, cb1, cb2⟩ := vb
  have hvr := vr
  have hfr := fr
  obtain ⟨cr0, cr1, cr2⟩ := vr
  obtain ⟨fr0, fr1, fr2⟩ := fr
  cases hb : ax b1 b2 b3
  ·go_wp2_with fail
   exact bodyPost_ret (v := .agg #[.int .i64 0, .int .i64 0, .int .i64 0]) (by simp [results, Tryz.results117, go_sem, cr0, cr1, cr2]) rfl ⟨by simp [crI, hb], aJ hB (by omega) _ _ _⟩
  ·go_wp2_with fail
   exact bodyPost_ret (v := .agg #[.int .i64 (crW a2 a3 b2 b3), .int .i64 (crW a3 a1 b3 b1), .int .i64 (crW a1 a2 b1 b2)]) (by simp [results, Tryz.results117, go_sem, cr0, cr1, cr2, crW]) rfl ⟨by simp [crI, ha, hb], aJ hB (by omega) _ _ _⟩
theorem mg (a1 a2 a3 b1 b2 b3 : Int) (w : World) :
  Calls Tryz.prog 97 #[.agg #[.int .i64 a1, .int .i64 a2, .int .i64 a3], .agg #[.int .i64 b1, .int .i64 b2, .int .i64 b3]] w fun e w' => e = .returned (.agg #[.int .i64 (crW a2 a3 b2 b3), .int .i64 (crW a3 a1 b3 b1), .int .i64 (crW a1 a2 b1 b2)]) ∧ Below w.heap.size w w' := by
 go_enter Tryz.func97, Tryz.ntmps97
 go_wp2
 exact bodyPost_ret (v := .agg #[.int .i64 (crW a2 a3 b2 b3), .int .i64 (crW a3 a1 b3 b1), .int .i64 (crW a1 a2 b1 b2)]) (by simp [results, Tryz.results97, go_sem, crW]) rfl ⟨rfl, fk _ _ _ _⟩
end
section
open Go.RowKit Go.Sort
theorem gA (x y z : Int) (w : World) :
  Calls Tryz.prog 71 #[.agg #[.int .i64 x, .int .i64 y, .int .i64 z]] w fun e w' => e = .returned (.int .i64 (aR x y z x y z)) ∧ Below w.heap.size w w' := by
 go_enter Tryz.func71, Tryz.ntmps71
 go_wp2_with fail
 refine (lO x y z x y z _).mono ?_
 rintro e w1 ⟨rfl, hB1⟩
 have hB : Below w.heap.size w w1 := ak (am _ _) hB1
 go_wp2_with fail
 go_ret
 exact ⟨rfl, hB⟩
theorem ei (x y z : Int) (w : World) :
  Calls Tryz.prog 60 #[.agg #[.int .i64 x, .int .i64 y, .int .i64 z]] w fun e w' => e = .returned (.bool (aO x y z)) ∧ Below w.heap.size w w' := by
 go_enter Tryz.func60, Tryz.ntmps60
 go_wp2_with fail
 refine (bR x y z _).mono ?_
 rintro e w1 ⟨rfl, hB1⟩
 have hB : Below w.heap.size w w1 := ak (am _ _) hB1
 have va : av w1 w.heap.size x y z := (aw w x y z _).kept (by simp) hB1
 clear hB1
 obtain ⟨ca0, ca1, ca2⟩ := va
 cases ha : ax x y z
 ·go_wp2_with fail
  go_ret
  exact ⟨by simp [aO, ha], hB⟩
 ·go_wp2_with fail
  refine (gD 1800 x y z _ (by omega) (by omega)).mono ?_
  rintro e w2 ⟨rfl, hB2⟩
  replace hB := ak hB hB2
  go_wp2_with fail
  go_ret
  exact ⟨by simp [aO, ha], hB⟩
theorem dj (x y z : Int) (w : World) :
  Calls Tryz.prog 67 #[.agg #[.int .i64 x, .int .i64 y, .int .i64 z]] w fun e w' => e = .returned (.bool (aF x y z)) ∧ Below w.heap.size w w' := by
 go_enter Tryz.func67, Tryz.ntmps67
 go_wp2_with fail
 refine (bR x y z _).mono ?_
 rintro e w1 ⟨rfl, hB1⟩
 have hB : Below w.heap.size w w1 := ak (am _ _) hB1
 have va : av w1 w.heap.size x y z := (aw w x y z _).kept (by simp) hB1
 clear hB1
 obtain ⟨ca0, ca1, ca2⟩ := va
 cases ha : ax x y z
 ·go_wp2_with fail
  go_ret
  exact ⟨by simp [aF, ha], hB⟩
 ·go_wp2_with fail
  refine (gD 10 x y z _ (by omega) (by omega)).mono ?_
  rintro e w2 ⟨rfl, hB2⟩
  replace hB := ak hB hB2
  go_wp2_with fail
  go_ret
  exact ⟨by simp [aF, ha], hB⟩
theorem kx (n : Int) (w : World) :
  Calls Tryz.prog 68 #[.int .i64 n] w fun e w' => e = .returned (.int .i64 (jw n)) ∧ w' = w := by
 by_cases h : n < 0
 ·have HS := yz (show jw n = wrap64 (wrap64 (-n) * n) by unfold jw; rw [if_pos h])
  go_enter Tryz.func68, Tryz.ntmps68
  go_wp2
  go_ret
  exact ⟨by rw [yy HS]; rfl, rfl⟩
 ·have HS := yz (show jw n = wrap64 (n * n) by unfold jw; rw [if_neg h])
  go_enter Tryz.func68, Tryz.ntmps68
  go_wp2
  go_ret
  exact ⟨by rw [yy HS]; rfl, rfl⟩
theorem iF (a b : Int) (w : World) :
  Calls Tryz.prog 72 #[.int .i64 a, .int .i64 b] w fun e w' => e = .returned (.int .i64 (bS a b)) ∧ w' = w := by
 by_cases h : a < b
 ·have HS := yz (show bS a b = -1 by unfold bS; rw [if_pos h])
  go_enter Tryz.func72, Tryz.ntmps72
  go_wp2
  go_ret
  exact ⟨by rw [yy HS]; rfl, rfl⟩
 ·by_cases h2 : b < a
  ·have HS := yz (show bS a b = 1 by unfold bS; rw [if_neg h, if_pos h2])
   go_enter Tryz.func72, Tryz.ntmps72
   go_wp2
   go_ret
   exact ⟨by rw [yy HS]; rfl, rfl⟩
  ·have HS := yz (show bS a b = 0 by unfold bS; rw [if_neg h, if_neg h2])
   go_enter Tryz.func72, Tryz.ntmps72
   go_wp2
   go_ret
   exact ⟨by rw [yy HS]; rfl, rfl⟩
theorem iX (a1 a2 a3 b1 b2 b3 : Int) (w : World) :
  Calls Tryz.prog 70 #[.func (.func 71) #[.agg #[.int .i64 a1, .int .i64 a2, .int .i64 a3]] #[], .func (.func 71) #[.agg #[.int .i64 b1, .int .i64 b2, .int .i64 b3]] #[]] w fun e w' => e = .returned (.int .i64 (wrap64 (aR a1 a2 a3 a1 a2 a3 * aR b1 b2 b3 b1 b2 b3))) ∧ Below w.heap.size w w' := by
 go_enter Tryz.func70, Tryz.ntmps70
 go_wp2_with fail
 refine (gA a1 a2 a3 _).mono ?_
 rintro e w1 ⟨rfl, hB1⟩
 go_wp2_with fail
 refine (gA b1 b2 b3 _).mono ?_
 rintro e w2 ⟨rfl, hB2⟩
 go_wp2_with fail
 go_ret
 exact ⟨rfl, ak hB1 hB2⟩
theorem cu {x y z : Int} (h : aO x y z = true) : ax x y z = true ∧ az 1800 x y z = true := by simpa [aO] using h
theorem cn {x y z : Int} (h : aF x y z = true) : ax x y z = true ∧ az 10 x y z = true := by simpa [aF] using h
theorem sY {a1 a2 a3 b1 b2 b3 c1 c2 c3 d1 d2 d3 : Int} (ha : aO a1 a2 a3 = true) (hb : aO b1 b2 b3 = true) (hc : aF c1 c2 c3 = true) (hd : aF d1 d2 d3 = true) :
  dH a1 a2 a3 b1 b2 b3 c1 c2 c3 d1 d2 d3 = bS (wrap64 (jw (lV a1 a2 a3 b1 b2 b3) * wrap64 (aR c1 c2 c3 c1 c2 c3 * aR d1 d2 d3 d1 d2 d3))) (wrap64 (jw (lV c1 c2 c3 d1 d2 d3) * wrap64 (aR a1 a2 a3 a1 a2 a3 * aR b1 b2 b3 b1 b2 b3))) := by
 have h := qV (cu ha).2 (cu hb).2 (cn hc).2 (cn hd).2
 unfold dH lV
 rw [(cu ha).1, (cu hb).1, (cn hc).1, (cn hd).1, ha, hb, hc, hd, if_pos (by rfl), if_pos (by rfl), if_pos (by rfl), h.1, h.2]
end
end Go.Proofs.YthoiooefclbecaaGreatDoor
