/- Several texts in one: Tz, VecMath, IdM, SkyMath, TurnMath, TurnMath2, MaM, Plain, VecA, VecB, VecC, SkyA, FrA, FrB, Bytes. -/
import Derived.Deep.RegionHeld
import Derived.WalkKit
import Derived.Laws.BitsAllLaws
import Derived.Test.YtoakkmjcbnfljaaGreatDoorChecked
import Derived.Below
import Derived.Laws.StructEq
import Derived.WalkLawsBesides
import Derived.LaidEql
import Derived.Stop.Asserts
import Derived.RowKitTokens
import Derived.Lib.QuietBelow
import Derived.Deep.QuietTactic
import Derived.BigQuiet
import Derived.Test.YtoakkmjcbnfljaaGreatDoorRows
import Derived.WalkSpells
import Derived.Lib.BufferWrite
import Derived.Lib.SlBytesRow
namespace Go.Proofs.YtoakkmjcbnfljaaGreatDoor
set_option linter.unusedVariables false
set_option linter.unusedSimpArgs false
set_option maxRecDepth 100000
set_option maxHeartbeats 8000000
section
theorem ab {P : Program} {ops : Array Oper} {Q : Exit → Act → World → Prop} {md : Region.Mode} {S : World → Prop} {fuel : Nat} {listed : Array Bool} {a : Act} {w : World} (i : Nat) {oi : Oper} {v : Value} (hi : ops[i]? = some oi) (h : wpAnyH P md ops Q S fuel (listed.setIfInBounds i true) (a.put oi.dst v) w) (hs : Region.noSelect ops = true := by kernel_rfl) (hf : Region.free md ops listed i = true := by kernel_rfl) (hr : (Region.ready md ops listed).contains i = true := by kernel_rfl) (hQ : ∀ c a w, Q (.panic c) (a.put oi.dst v) w → Q (.panic c) a w := by exact fun _ _ _ h => h) (hw : Region.wanted oi (yielded ops a.tmps) = true := by kernel_rfl) (hy : ∀ w, S w → (execOp a.eval oi).run P w = .ok (.value v) w := by (intro W0 hSw; (try dsimp only at hSw); go_simp <;> with_reducible rfl)) (hS : S w := by assumption) : wpAnyH P md ops Q S (fuel + 1) listed a w := wpAnyH_take hi hs hf hr hQ (Or.inl ⟨hw, hy⟩) hS h
theorem ae {P : Program} {ops : Array Oper} {Q : Exit → Act → World → Prop} {md : Region.Mode} {S : World → Prop} {fuel : Nat} {listed : Array Bool} {a : Act} {w : World} (i : Nat) {o : Oper} (ho : ops[i]? = some o) (h : (∀ K' : Act → World → Prop, Shut (∀ a w, S w → (S w → wpAnyH P md ops Q S fuel (listed.setIfInBounds i true) a w) → K' a w) → if Region.wanted o (yielded ops a.tmps) = true then Oper.wp P o a w K' Q else K' (a.put o.dst undef) w)) (hr : Region.ready md ops listed = [i] := by kernel_rfl) : wpAnyH P md ops Q S (fuel + 1) listed a w := wpAnyH_ready hr (by simp) (AllReadyH.cons ho h AllReadyH.nil)
theorem af {P : Program} {ops : Array Oper} {Q : Exit → Act → World → Prop} {md : Region.Mode} {S : World → Prop} {fuel : Nat} {listed : Array Bool} {a : Act} {w : World} (i j : Nat) {o u : Oper} (ho : ops[i]? = some o) (h : (∀ K' : Act → World → Prop, Shut (∀ a w, S w → (S w → wpAnyH P md ops Q S fuel (listed.setIfInBounds i true) a w) → K' a w) → if Region.wanted o (yielded ops a.tmps) = true then Oper.wp P o a w K' Q else K' (a.put o.dst undef) w)) (hu : ops[j]? = some u) (g : (∀ K' : Act → World → Prop, Shut (∀ a w, S w → (S w → wpAnyH P md ops Q S fuel (listed.setIfInBounds j true) a w) → K' a w) → if Region.wanted u (yielded ops a.tmps) = true then Oper.wp P u a w K' Q else K' (a.put u.dst undef) w)) (hr : Region.ready md ops listed = [i, j] := by kernel_rfl) : wpAnyH P md ops Q S (fuel + 1) listed a w := wpAnyH_ready hr (by simp) (AllReadyH.cons ho h (AllReadyH.cons hu g AllReadyH.nil))
theorem ag {α : Type} (i : Nat) (x : α) (l : List α) : l.toArray.setIfInBounds i x = (l.set i x).toArray := List.setIfInBounds_toArray ..
theorem ah {α : Type} (x y : α) (l : List α) : (x :: l).set 0 y = y :: l := rfl
theorem ai {α : Type} (x y : α) (l : List α) (n : Nat) : (x :: l).set (n + 1) y = x :: l.set n y := rfl
end
section
open Go.RowKit
def inB (m x : Int) : Bool := decide (-m ≤ x ∧ x ≤ m)
def aF (m x y z : Int) : Bool := inB m x && inB m y && inB m z
def el (x y z : Int) : Bool := decide (x = 0 ∧ y = 0 ∧ z = 0)
def aq (x y z : Int) : Bool := aF 1000000 x y z && !el x y z
theorem eu {m x : Int} : inB m x = true ↔ -m ≤ x ∧ x ≤ m := by simp [inB]
theorem aK {m x y z : Int} : aF m x y z = true ↔ (-m ≤ x ∧ x ≤ m) ∧ (-m ≤ y ∧ y ≤ m) ∧ (-m ≤ z ∧ z ≤ m) := by
 simp [aF, eu, and_assoc]
theorem aI {x y z : Int} : aq x y z = true ↔ ((-1000000 ≤ x ∧ x ≤ 1000000) ∧ (-1000000 ≤ y ∧ y ≤ 1000000) ∧ (-1000000 ≤ z ∧ z ≤ 1000000)) ∧ ¬ (x = 0 ∧ y = 0 ∧ z = 0) := by
 unfold aq
 rw [Bool.and_eq_true, aK]
 simp only [el, Bool.not_eq_true', decide_eq_false_iff_not]
theorem ay {n : Int} (h0 : -9223372036854775808 ≤ n) (h1 : n ≤ 9223372036854775807) : wrap64 n = n := by
 exact Go.IntWalk.wrap64_in n ⟨h0, h1⟩
theorem bW {a b A B : Int} (h1 : -A ≤ a ∧ a ≤ A) (h3 : -B ≤ b ∧ b ≤ B) : -(A * B) ≤ a * b ∧ a * b ≤ A * B := by
 have h : (a * b).natAbs ≤ A.natAbs * B.natAbs := by
  rw [Int.natAbs_mul]; exact Nat.mul_le_mul (by omega) (by omega)
 have : ((A.natAbs * B.natAbs : Nat) : Int) = A * B := by
  rw [Int.natCast_mul, Int.natAbs_of_nonneg (by omega), Int.natAbs_of_nonneg (by omega)]
 omega
def bf (a1 a2 a3 b1 b2 b3 : Int) : Int := wrap64 (wrap64 (wrap64 (a1 * b1) + wrap64 (a2 * b2)) + wrap64 (a3 * b3))
def dot (a1 a2 a3 b1 b2 b3 : Int) : Int := a1 * b1 + a2 * b2 + a3 * b3
def crW (a2 a3 b2 b3 : Int) : Int := wrap64 (wrap64 (a2 * b3) - wrap64 (a3 * b2))
theorem mq (a1 a2 a3 b1 b2 b3 : Int) : bf a1 a2 a3 b1 b2 b3 = bf b1 b2 b3 a1 a2 a3 := by
 unfold bf; rw [Int.mul_comm a1, Int.mul_comm a2, Int.mul_comm a3]
theorem bA {a1 a2 a3 b1 b2 b3 A B : Int} (ha : aF A a1 a2 a3 = true) (hb : aF B b1 b2 b3 = true) : -(3 * (A * B)) ≤ dot a1 a2 a3 b1 b2 b3 ∧ dot a1 a2 a3 b1 b2 b3 ≤ 3 * (A * B) := by
 rw [aK] at ha hb
 have h1 := bW ha.1 hb.1
 have h2 := bW ha.2.1 hb.2.1
 have h3 := bW ha.2.2 hb.2.2
 unfold dot
 omega
theorem bK {a1 a2 a3 b1 b2 b3 A B : Int} (ha : aF A a1 a2 a3 = true) (hb : aF B b1 b2 b3 = true) (h : 3 * (A * B) ≤ 9223372036854775807) : bf a1 a2 a3 b1 b2 b3 = dot a1 a2 a3 b1 b2 b3 := by
 rw [aK] at ha hb
 have h1 := bW ha.1 hb.1
 have h2 := bW ha.2.1 hb.2.1
 have h3 := bW ha.2.2 hb.2.2
 unfold bf dot
 rw [ay (n := a1 * b1) (by omega) (by omega), ay (n := a2 * b2) (by omega) (by omega), ay (n := a3 * b3) (by omega) (by omega), ay (n := a1 * b1 + a2 * b2) (by omega) (by omega), ay (by omega) (by omega)]
theorem bY {a2 a3 b2 b3 A B : Int} (h2 : -A ≤ a2 ∧ a2 ≤ A) (h3 : -A ≤ a3 ∧ a3 ≤ A) (k2 : -B ≤ b2 ∧ b2 ≤ B) (k3 : -B ≤ b3 ∧ b3 ≤ B) (h : 2 * (A * B) ≤ 9223372036854775807) :
  crW a2 a3 b2 b3 = a2 * b3 - a3 * b2 ∧ -(2 * (A * B)) ≤ a2 * b3 - a3 * b2 ∧ a2 * b3 - a3 * b2 ≤ 2 * (A * B) := by
 have h1 := bW h2 k3
 have h2 := bW h3 k2
 unfold crW
 rw [ay (n := a2 * b3) (by omega) (by omega), ay (n := a3 * b2) (by omega) (by omega), ay (by omega) (by omega)]
 omega
theorem kG (k a b : Int) : crW a b (k * a) (k * b) = 0 := by
 unfold crW
 rw [show a * (k * b) = b * (k * a) by grind, Int.sub_self]
 exact ay (by omega) (by omega)
def mZ (a1 a2 a3 b1 b2 b3 : Int) : Int := if aq a1 a2 a3 && aq b1 b2 b3 then bf a1 a2 a3 b1 b2 b3 else 0
def crI (r : Bool) (a2 a3 b2 b3 : Int) : Int := if r then crW a2 a3 b2 b3 else 0
def ka (a1 a2 a3 b1 b2 b3 c1 c2 c3 : Int) : Int :=
 if aq a1 a2 a3 && aq b1 b2 b3 && aq c1 c2 c3 then bf (crW a2 a3 b2 b3) (crW a3 a1 b3 b1) (crW a1 a2 b1 b2) c1 c2 c3 else 0
def gI (x y z : Int) : Int := ((Int.gcd (Int.gcd x y : Int) z : Nat) : Int)
def prI (r : Bool) (g x : Int) : Int := if r then wrap64 (x.tdiv g) else 0
def bv (a1 a2 a3 b1 b2 b3 : Int) : Bool :=
 aq a1 a2 a3 && aq b1 b2 b3 && el (crW a2 a3 b2 b3) (crW a3 a1 b3 b1) (crW a1 a2 b1 b2) && decide (0 < bf a1 a2 a3 b1 b2 b3)
theorem ol {a1 a2 a3 b1 b2 b3 c1 c2 c3 : Int} (ha : aq a1 a2 a3 = true) (hb : aq b1 b2 b3 = true) (hc : aq c1 c2 c3 = true) :
  ka a1 a2 a3 b1 b2 b3 c1 c2 c3 = (a2 * b3 - a3 * b2) * c1 + (a3 * b1 - a1 * b3) * c2 + (a1 * b2 - a2 * b1) * c3 := by
 unfold ka
 rw [ha, hb, hc]
 rw [aI] at ha hb hc
 obtain ⟨⟨x1, x2, x3⟩, _⟩ := ha
 obtain ⟨⟨y1, y2, y3⟩, _⟩ := hb
 obtain ⟨⟨z1, z2, z3⟩, _⟩ := hc
 have e1 := bY x2 x3 y2 y3 (by omega)
 have e2 := bY x3 x1 y3 y1 (by omega)
 have e3 := bY x1 x2 y1 y2 (by omega)
 rw [if_pos (by rfl), e1.1, e2.1, e3.1, bK (A := 2000000000000) (B := 1000000) (aK.2 ⟨by omega, by omega, by omega⟩) (aK.2 ⟨z1, z2, z3⟩) (by omega)]
 rfl
theorem oB (a b : Int) : Int.gcd b (a.tmod b) = Int.gcd a b := by
 show Nat.gcd b.natAbs (a.tmod b).natAbs = Nat.gcd a.natAbs b.natAbs
 rw [Int.natAbs_tmod, Nat.gcd_comm b.natAbs, ← Nat.gcd_rec, Nat.gcd_comm]
theorem oC (a : Int) : ((Int.gcd a 0 : Nat) : Int) = if a < 0 then -a else a := by
 rw [Int.gcd_zero_right]
 split <;> omega
theorem nZ (a b : Int) (h : b ≠ 0) : (a.tmod b).natAbs < b.natAbs := by
 rw [Int.natAbs_tmod]; exact Nat.mod_lt _ (by omega)
theorem it {a b m : Int} (ha : -m ≤ a ∧ a ≤ m) (hb : -m ≤ b ∧ b ≤ m) : 0 ≤ ((Int.gcd a b : Nat) : Int) ∧ ((Int.gcd a b : Nat) : Int) ≤ m := by
 refine ⟨by omega, ?_⟩
 by_cases h : a = 0
 ·subst h; rw [Int.gcd_zero_left]; omega
 ·have := Nat.le_of_dvd (by omega) (Nat.gcd_dvd_left a.natAbs b.natAbs)
  have e : Int.gcd a b = Nat.gcd a.natAbs b.natAbs := rfl
  omega
theorem qY (x y z : Int) : ((Int.gcd ((Int.gcd ((Int.gcd 0 x : Nat) : Int) y : Nat) : Int) z : Nat) : Int) = gI x y z := by
 unfold gI
 have : Int.gcd ((Int.gcd 0 x : Nat) : Int) y = Int.gcd x y := by
  rw [Int.gcd_zero_left]
  show Nat.gcd (x.natAbs : Int).natAbs y.natAbs = Nat.gcd x.natAbs y.natAbs
  rw [Int.natAbs_natCast]
 rw [this]
theorem pB {x y z : Int} (h : aq x y z = true) : 0 < gI x y z := by
 rw [aI] at h
 unfold gI
 have h2 : Int.gcd ((Int.gcd x y : Nat) : Int) z ≠ 0 := by
  intro e
  rw [Int.gcd_eq_zero_iff] at e
  have e1 : Int.gcd x y = 0 := by omega
  rw [Int.gcd_eq_zero_iff] at e1
  exact h.2 ⟨e1.1, e1.2, e.2⟩
 omega
theorem eV {x y z : Int} (h : ¬ (x = 0 ∧ y = 0 ∧ z = 0)) : 0 < dot x y z x y z := by
 unfold dot
 have hx : 0 ≤ x * x := by rw [← Int.natAbs_mul_self' x]; exact Int.natCast_nonneg _
 have hy : 0 ≤ y * y := by rw [← Int.natAbs_mul_self' y]; exact Int.natCast_nonneg _
 have hz : 0 ≤ z * z := by rw [← Int.natAbs_mul_self' z]; exact Int.natCast_nonneg _
 by_cases h1 : x = 0
 ·by_cases h2 : y = 0
  ·have h3 : z ≠ 0 := fun e => h ⟨h1, h2, e⟩
   have : z * z ≠ 0 := fun e => by rcases Int.mul_eq_zero.1 e with e | e <;> exact h3 e
   omega
  ·have : y * y ≠ 0 := fun e => by rcases Int.mul_eq_zero.1 e with e | e <;> exact h2 e
   omega
 ·have : x * x ≠ 0 := fun e => by rcases Int.mul_eq_zero.1 e with e | e <;> exact h1 e
  omega
theorem ry {k x y z : Int} (hk : 0 < k) (hs : aq x y z = true) (hr : aq (k * x) (k * y) (k * z) = true) : bv x y z (k * x) (k * y) (k * z) = true := by
 have hp := eV (aI.1 hs).2
 have hd : dot x y z (k * x) (k * y) (k * z) = k * dot x y z x y z := by unfold dot; grind
 have := Int.mul_pos hk hp
 unfold bv
 rw [hs, hr, kG, kG, kG, bK (A := 1000000) (B := 1000000) (aK.2 (aI.1 hs).1) (aK.2 (aI.1 hr).1) (by omega), hd]
 simp [el, this]
def sgn (n : Int) : Int := if n < 0 then -1 else if 0 < n then 1 else 0
def dD (a b : Int) : Int := if a < b then -1 else if b < a then 1 else 0
def ssq (n : Int) : Int := if n < 0 then -n * n else n * n
def kl (n : Int) : Int := if n < 0 then wrap64 (wrap64 (-n) * n) else wrap64 (n * n)
def bz (x y z : Int) : Bool := aq x y z && aF 1800 x y z
def aH (x y z : Int) : Bool := aq x y z && aF 10 x y z
def iq (a1 a2 a3 b1 b2 b3 c1 c2 c3 d1 d2 d3 : Int) : Int :=
 if bz a1 a2 a3 && bz b1 b2 b3 && aH c1 c2 c3 && aH d1 d2 d3 then
  dD (ssq (dot a1 a2 a3 b1 b2 b3) * (dot c1 c2 c3 c1 c2 c3 * dot d1 d2 d3 d1 d2 d3)) (ssq (dot c1 c2 c3 d1 d2 d3) * (dot a1 a2 a3 a1 a2 a3 * dot b1 b2 b3 b1 b2 b3))
 else 0
theorem rS {a1 a2 a3 b1 b2 b3 c1 c2 c3 d1 d2 d3 : Int} (ha : aF 1800 a1 a2 a3 = true) (hb : aF 1800 b1 b2 b3 = true) (hc : aF 10 c1 c2 c3 = true) (hd : aF 10 d1 d2 d3 = true) :
  wrap64 (kl (bf a1 a2 a3 b1 b2 b3) * wrap64 (bf c1 c2 c3 c1 c2 c3 * bf d1 d2 d3 d1 d2 d3)) = ssq (dot a1 a2 a3 b1 b2 b3) * (dot c1 c2 c3 c1 c2 c3 * dot d1 d2 d3 d1 d2 d3) ∧
  wrap64 (kl (bf c1 c2 c3 d1 d2 d3) * wrap64 (bf a1 a2 a3 a1 a2 a3 * bf b1 b2 b3 b1 b2 b3)) = ssq (dot c1 c2 c3 d1 d2 d3) * (dot a1 a2 a3 a1 a2 a3 * dot b1 b2 b3 b1 b2 b3) := by
 rw [bK ha hb (by omega), bK hc hc (by omega), bK hd hd (by omega), bK hc hd (by omega), bK ha ha (by omega), bK hb hb (by omega)]
 have x1 := bA ha hb
 have x2 := bA hc hc
 have x3 := bA hd hd
 have x4 := bA hc hd
 have x5 := bA ha ha
 have x6 := bA hb hb
 generalize dot a1 a2 a3 b1 b2 b3 = p1 at *
 generalize dot c1 c2 c3 c1 c2 c3 = p2 at *
 generalize dot d1 d2 d3 d1 d2 d3 = p3 at *
 generalize dot c1 c2 c3 d1 d2 d3 = p4 at *
 generalize dot a1 a2 a3 a1 a2 a3 = p5 at *
 generalize dot b1 b2 b3 b1 b2 b3 = p6 at *
 have key : ∀ (p q r P Q : Int), (-P ≤ p ∧ p ≤ P) → (-Q ≤ q ∧ q ≤ Q) → (-Q ≤ r ∧ r ≤ Q) → P * P ≤ 9223372036854775807 → P ≤ 9223372036854775807 → Q * Q ≤ 9223372036854775807 → (P * P) * (Q * Q) ≤ 9223372036854775807 →
   wrap64 (kl p * wrap64 (q * r)) = ssq p * (q * r) := by
  intro p q r P Q h1 h2 h3 k1 k2 k3 k4
  have m1 := bW h1 h1
  have m2 := bW h2 h3
  have e : kl p = ssq p := by
   unfold kl ssq
   split
   ·rw [ay (n := -p) (by omega) (by omega)]
    have : -p * p = -(p * p) := by grind
    rw [ay (by omega) (by omega)]
   ·rw [ay (by omega) (by omega)]
  have b : -(P * P) ≤ ssq p ∧ ssq p ≤ P * P := by
   unfold ssq
   have : -p * p = -(p * p) := by grind
   split <;> omega
  have m3 := bW b m2
  rw [e, ay (n := q * r) (by omega) (by omega), ay (by omega) (by omega)]
 exact ⟨key p1 p2 p3 9720000 300 (by omega) (by omega) (by omega) (by omega) (by omega) (by omega) (by omega), key p4 p5 p6 300 9720000 (by omega) (by omega) (by omega) (by omega) (by omega) (by omega) (by omega)⟩
theorem nJ {a b : Int} (h : a < b) : dD a b = -1 := by simp [dD, h]
theorem nI {a b : Int} (h : b < a) : dD a b = 1 := by unfold dD; rw [if_neg (by omega), if_pos h]
theorem gN {x : Int} (h : x < 0) : ssq x = -(x * x) := by unfold ssq; rw [if_pos h]; grind
theorem gO {x : Int} (h : 0 ≤ x) : ssq x = x * x := by unfold ssq; rw [if_neg (by omega)]
theorem eB {x : Int} (h : x < 0) : sgn x = -1 := by simp [sgn, h]
theorem eC {x : Int} (h : 0 < x) : sgn x = 1 := by unfold sgn; rw [if_neg (by omega), if_pos h]
theorem iU : sgn 0 = 0 := by simp [sgn]
def kF (x y p q : Int) : Int :=
 if sgn x ≠ sgn y then sgn (wrap64 (sgn x - sgn y)) else if p < q then wrap64 (-sgn x) else if q < p then sgn x else 0
theorem rT {x y L M : Int} (hL : 0 < L) (hM : 0 < M) : kF x y (x * x * L) (y * y * M) = dD (ssq x * L) (ssq y * M) := by
 have sq : ∀ {x L : Int}, x ≠ 0 → 0 < L → 0 < x * x * L := fun {x L} h hL => by
  have h0 : 0 ≤ x * x := by rw [← Int.natAbs_mul_self' x]; exact Int.natCast_nonneg _
  have : x * x ≠ 0 := fun e => by rcases Int.mul_eq_zero.1 e with e | e <;> exact h e
  exact Int.mul_pos (by omega) hL
 have xL : x ≠ 0 → 0 < x * x * L := fun h => sq h hL
 have yM : y ≠ 0 → 0 < y * y * M := fun h => sq h hM
 have nx : -(x * x) * L = -(x * x * L) := by grind
 have ny : -(y * y) * M = -(y * y * M) := by grind
 have w1 : wrap64 (-1) = -1 := ay (by omega) (by omega)
 have w2 : wrap64 (-2) = -2 := ay (by omega) (by omega)
 have w3 : wrap64 1 = 1 := ay (by omega) (by omega)
 have w4 : wrap64 2 = 2 := ay (by omega) (by omega)
 have z0 : ssq 0 = 0 := by simp [ssq]
 unfold kF
 rcases Int.lt_trichotomy x 0 with hx0 | hx0 | hx0 <;> rcases Int.lt_trichotomy y 0 with hy0 | hy0 | hy0
 ·rw [eB hx0, eB hy0, gN hx0, gN hy0, nx, ny, if_neg (by simp), show (-(-1) : Int) = 1 from rfl, w3]
  unfold dD
  split
  ·rw [if_neg (by omega), if_pos (by omega)]
  ·split
   ·rw [if_pos (by omega)]
   ·rw [if_neg (by omega), if_neg (by omega)]
 ·subst hy0
  have := xL (by omega)
  rw [eB hx0, iU, gN hx0, z0, nx, nJ (by omega), if_pos (by simp), show (-1 - 0 : Int) = -1 from rfl, w1, eB (by omega)]
 ·have := xL (by omega)
  have := yM (by omega)
  rw [eB hx0, eC hy0, gN hx0, gO (by omega), nx, nJ (by omega), if_pos (by simp), show (-1 - 1 : Int) = -2 from rfl, w2, eB (by omega)]
 ·subst hx0
  have := yM (by omega)
  rw [eB hy0, iU, gN hy0, z0, ny, nI (by omega), if_pos (by simp), show (0 - -1 : Int) = 1 from rfl, w3, eC (by omega)]
 ·subst hx0; subst hy0
  simp [dD, ssq, sgn]
 ·subst hx0
  have := yM (by omega)
  rw [eC hy0, iU, gO (x := y) (by omega), z0, nJ (by omega), if_pos (by simp), show (0 - 1 : Int) = -1 from rfl, w1, eB (by omega)]
 ·have := xL (by omega)
  have := yM (by omega)
  rw [eC hx0, eB hy0, gN hy0, gO (by omega), ny, nI (by omega), if_pos (by simp), show (1 - -1 : Int) = 2 from rfl, w4, eC (by omega)]
 ·subst hy0
  have := xL (by omega)
  rw [eC hx0, iU, gO (x := x) (by omega), z0, nI (by omega), if_pos (by simp), show (1 - 0 : Int) = 1 from rfl, w3, eC (by omega)]
 ·rw [eC hx0, eC hy0, gO (x := x) (by omega), gO (x := y) (by omega), if_neg (by simp), w1]
  rfl
abbrev D3 := Int × Int × Int
def vA (L : List D3) (i : Nat) : D3 := L.getD i (0, 0, 0)
def ek (v : D3) : Bool := bz v.1 v.2.1 v.2.2
def aS (p q : D3) : Bool := bv p.1 p.2.1 p.2.2 q.1 q.2.1 q.2.2
def fA (L : List D3) (v : D3) (n : Nat) : Bool := (List.range n).any fun j => aS v (vA L j)
def iI (L : List D3) (v : D3) (k : Nat) : Prop := ∀ j, j < k → aS v (vA L j) = false
def okV (L : List D3) (i : Nat) : Bool := ek (vA L i) && !fA L (vA L i) i
def mI (L : List D3) (k : Nat) : Prop := ∀ j, j < k → okV L j = true
def aM (L : List D3) : Bool := decide (L.length ≤ 6) && (List.range L.length).all (okV L)
theorem kB {L : List D3} {v : D3} {n : Nat} (h : iI L v n) : fA L v n = false := by
 unfold fA
 rw [List.any_eq_false]
 intro j hj
 rw [h j (List.mem_range.1 hj)]
 simp
theorem mh {L : List D3} {v : D3} {n j : Nat} (hj : j < n) (h : aS v (vA L j) = true) : fA L v n = true := by
 unfold fA
 rw [List.any_eq_true]
 exact ⟨j, List.mem_range.2 hj, h⟩
theorem kC {L : List D3} {v : D3} {k : Nat} (h : iI L v k) (h1 : aS v (vA L k) = false) : iI L v (k + 1) := by
 intro j hj
 by_cases e : j = k
 ·rw [e]; exact h1
 ·exact h j (by omega)
theorem oS {L : List D3} {k : Nat} (h : mI L k) (h1 : okV L k = true) : mI L (k + 1) := by
 intro j hj
 by_cases e : j = k
 ·rw [e]; exact h1
 ·exact h j (by omega)
theorem fw {L : List D3} (hl : L.length ≤ 6) (h : mI L L.length) : aM L = true := by
 unfold aM
 rw [Bool.and_eq_true, List.all_eq_true]
 exact ⟨by simpa using hl, fun j hj => h j (List.mem_range.1 hj)⟩
theorem iX {L : List D3} {k : Nat} (hk : k < L.length) (h : okV L k = false) : aM L = false := by
 unfold aM
 have : (List.range L.length).all (okV L) = false := by
  rw [List.all_eq_false]
  exact ⟨k, List.mem_range.2 hk, by rw [h]; simp⟩
 rw [this, Bool.and_false]
theorem fM {L : List D3} (hl : 6 < L.length) : aM L = false := by
 unfold aM
 rw [show decide (L.length ≤ 6) = false by simp; omega, Bool.false_and]
theorem bc {L : List D3} (h : aM L = true) : L.length ≤ 6 ∧ mI L L.length := by
 unfold aM at h
 rw [Bool.and_eq_true, List.all_eq_true] at h
 exact ⟨by simpa using h.1, fun j hj => h.2 j (List.mem_range.2 hj)⟩
theorem gn {L : List D3} {i : Nat} (h : okV L i = true) : ek (vA L i) = true := by
 unfold okV at h
 rw [Bool.and_eq_true] at h
 exact h.1
theorem dU {x y z : Int} (h : bz x y z = true) : aq x y z = true ∧ aF 1800 x y z = true := by simpa [bz] using h
theorem gp {a1 a2 a3 b1 b2 b3 : Int} (ra : aq a1 a2 a3 = true) (rb : aq b1 b2 b3 = true) : bv a1 a2 a3 b1 b2 b3 = bv b1 b2 b3 a1 a2 a3 := by
 obtain ⟨⟨x1, x2, x3⟩, _⟩ := aI.1 ra
 obtain ⟨⟨y1, y2, y3⟩, _⟩ := aI.1 rb
 have e1 := bY x2 x3 y2 y3 (by omega)
 have e2 := bY x3 x1 y3 y1 (by omega)
 have e3 := bY x1 x2 y1 y2 (by omega)
 have f1 := bY y2 y3 x2 x3 (by omega)
 have f2 := bY y3 y1 x3 x1 (by omega)
 have f3 := bY y1 y2 x1 x2 (by omega)
 unfold bv
 rw [ra, rb, e1.1, e2.1, e3.1, f1.1, f2.1, f3.1, mq]
 congr 2
 unfold el
 rw [Int.mul_comm b2, Int.mul_comm b3 a2, Int.mul_comm b3 a1, Int.mul_comm b1 a3, Int.mul_comm b1 a2, Int.mul_comm b2 a1]
 congr 1
 apply propext
 constructor <;> rintro ⟨h1, h2, h3⟩ <;> exact ⟨by omega, by omega, by omega⟩
theorem nN {p q : D3} (hp : ek p = true) (hq : ek q = true) : aS p q = aS q p := gp (dU hp).1 (dU hq).1
abbrev St := Int × Int × Int × Int
def stC (s : St) : List Value := [.int .i64 s.1, .int .i64 s.2.1, .int .i64 s.2.2.1, .int .i64 s.2.2.2]
def stA (L : List St) (i : Nat) : St := L.getD i (0, 0, 0, 0)
def idB (n : Int) : Bool := decide (1 ≤ n) && decide (n ≤ 9999)
def upB (L : List St) (i : Nat) : Bool := decide (i = 0) || decide ((stA L (i - 1)).1 < (stA L i).1)
def eqI (a1 a2 a3 b1 b2 b3 : Int) : Bool := decide (a1 = b1 ∧ a2 = b2 ∧ a3 = b3)
def dx (x y z : Int) : Bool := eqI x y z (prI (aq x y z) (gI x y z) x) (prI (aq x y z) (gI x y z) y) (prI (aq x y z) (gI x y z) z)
def jN (p q : St) : Bool := bv p.2.1 p.2.2.1 p.2.2.2 q.2.1 q.2.2.1 q.2.2.2
def jm (L : List St) (s : St) (k : Nat) : Prop := ∀ j, j < k → jN s (stA L j) = false
def dm (L : List St) (s : St) (n : Nat) : Bool := (List.range n).any fun j => jN s (stA L j)
def dn (L : List St) (i : Nat) : Bool :=
 idB (stA L i).1 && upB L i && (aH (stA L i).2.1 (stA L i).2.2.1 (stA L i).2.2.2 && dx (stA L i).2.1 (stA L i).2.2.1 (stA L i).2.2.2) && !dm L (stA L i) i
def oR (L : List St) (k : Nat) : Prop := ∀ j, j < k → dn L j = true
def aL (L : List St) : Bool := decide (L.length ≤ 12) && (List.range L.length).all (dn L)
theorem lK {L : List St} {s : St} {n : Nat} (h : jm L s n) : dm L s n = false := by
 unfold dm
 rw [List.any_eq_false]
 intro j hj
 rw [h j (List.mem_range.1 hj)]
 simp
theorem mO {L : List St} {s : St} {n j : Nat} (hj : j < n) (h : jN s (stA L j) = true) : dm L s n = true := by
 unfold dm
 rw [List.any_eq_true]
 exact ⟨j, List.mem_range.2 hj, h⟩
theorem my {L : List St} {s : St} {k : Nat} (h : jm L s k) (h1 : jN s (stA L k) = false) : jm L s (k + 1) := by
 intro j hj
 by_cases e : j = k
 ·rw [e]; exact h1
 ·exact h j (by omega)
theorem nH {L : List St} {k : Nat} (h : oR L k) (h1 : dn L k = true) : oR L (k + 1) := by
 intro j hj
 by_cases e : j = k
 ·rw [e]; exact h1
 ·exact h j (by omega)
theorem nQ {L : List St} (hl : L.length ≤ 12) (h : oR L L.length) : aL L = true := by
 unfold aL
 rw [Bool.and_eq_true, List.all_eq_true]
 exact ⟨by simpa using hl, fun j hj => h j (List.mem_range.1 hj)⟩
theorem fg {L : List St} {k : Nat} (hk : k < L.length) (h : dn L k = false) : aL L = false := by
 unfold aL
 have : (List.range L.length).all (dn L) = false := by
  rw [List.all_eq_false]
  exact ⟨k, List.mem_range.2 hk, by rw [h]; simp⟩
 rw [this, Bool.and_false]
theorem lA {L : List St} (hl : 12 < L.length) : aL L = false := by
 unfold aL
 rw [show decide (L.length ≤ 12) = false by simp; omega, Bool.false_and]
theorem bm {L : List St} (h : aL L = true) : L.length ≤ 12 ∧ oR L L.length := by
 unfold aL at h
 rw [Bool.and_eq_true, List.all_eq_true] at h
 exact ⟨by simpa using h.1, fun j hj => h.2 j (List.mem_range.2 hj)⟩
theorem di {L : List St} {i : Nat} (h : dn L i = true) : aH (stA L i).2.1 (stA L i).2.2.1 (stA L i).2.2.2 = true := by
 unfold dn at h
 simp only [Bool.and_eq_true] at h
 exact h.1.2.1
theorem bd {x y z : Int} (h : aH x y z = true) : aq x y z = true ∧ aF 10 x y z = true := by simpa [aH] using h
theorem pQ {a1 a2 a3 b1 b2 b3 : Int} (ha : aH a1 a2 a3 = true) (hb : aH b1 b2 b3 = true) : bv a1 a2 a3 b1 b2 b3 = bv b1 b2 b3 a1 a2 a3 := by
 obtain ⟨ra, wa⟩ := bd ha
 obtain ⟨rb, wb⟩ := bd hb
 obtain ⟨x1, x2, x3⟩ := aK.1 wa
 obtain ⟨y1, y2, y3⟩ := aK.1 wb
 have e1 := bY x2 x3 y2 y3 (by omega)
 have e2 := bY x3 x1 y3 y1 (by omega)
 have e3 := bY x1 x2 y1 y2 (by omega)
 have f1 := bY y2 y3 x2 x3 (by omega)
 have f2 := bY y3 y1 x3 x1 (by omega)
 have f3 := bY y1 y2 x1 x2 (by omega)
 unfold bv
 rw [ra, rb, e1.1, e2.1, e3.1, f1.1, f2.1, f3.1, mq]
 congr 2
 unfold el
 rw [Int.mul_comm b2, Int.mul_comm b3 a2, Int.mul_comm b3 a1, Int.mul_comm b1 a3, Int.mul_comm b1 a2, Int.mul_comm b2 a1]
 congr 1
 apply propext
 constructor <;> rintro ⟨h1, h2, h3⟩ <;> exact ⟨by omega, by omega, by omega⟩
theorem tw {a1 a2 a3 b1 b2 b3 : Int} (ha : aH a1 a2 a3 = true) (hb : aH b1 b2 b3 = true) :
  (eqI (crW a2 a3 b2 b3) (crW a3 a1 b3 b1) (crW a1 a2 b1 b2) 0 0 0 && decide (0 < bf a1 a2 a3 b1 b2 b3)) = bv a1 a2 a3 b1 b2 b3 := by
 unfold bv
 rw [(bd ha).1, (bd hb).1]
 rfl
def inT (m a b c d : Int) : Bool := inB m a && inB m b && inB m c && inB m d
def fy (a b c d : Int) : Bool := decide (a = 0 ∧ b = 0 ∧ c = 0 ∧ d = 0)
def fT (a b c d : Int) : Int := if a ≠ 0 then a else if b ≠ 0 then b else if c ≠ 0 then c else d
def gT (a b c d : Int) : Int := ((Int.gcd ((Int.gcd a b : Nat) : Int) ((Int.gcd c d : Nat) : Int) : Nat) : Int)
def sT (a b c d : Int) : Int := if fT a b c d < 0 then -gT a b c d else gT a b c d
def aC (a b c d : Int) : Bool := inT 5 a b c d && decide (0 < fT a b c d) && decide (gT a b c d = 1)
def eqT (a b c d a' b' c' d' : Int) : Bool := decide (a = a' ∧ b = b' ∧ c = c' ∧ d = d')
theorem ew {m a b c d : Int} : inT m a b c d = true ↔ (-m ≤ a ∧ a ≤ m) ∧ (-m ≤ b ∧ b ≤ m) ∧ (-m ≤ c ∧ c ≤ m) ∧ (-m ≤ d ∧ d ≤ m) := by
 simp [inT, eu, and_assoc]
theorem oG {m n a b c d : Int} (h : inT m a b c d = true) (hmn : m ≤ n) : inT n a b c d = true := by
 rw [ew] at h ⊢; omega
theorem kp {a b c d : Int} : fT a b c d = 0 ↔ (a = 0 ∧ b = 0 ∧ c = 0 ∧ d = 0) := by
 unfold fT
 split
 ·omega
 ·split
  ·omega
  ·split <;> omega
theorem tY (a b c d : Int) : fT a b c d = a ∨ fT a b c d = b ∨ fT a b c d = c ∨ fT a b c d = d := by
 unfold fT
 split
 ·exact .inl rfl
 ·split
  ·exact .inr (.inl rfl)
  ·split
   ·exact .inr (.inr (.inl rfl))
   ·exact .inr (.inr (.inr rfl))
theorem qX (a b c d : Int) : 0 ≤ gT a b c d := Int.natCast_nonneg _
theorem uc {a b c d : Int} (h : ¬ (a = 0 ∧ b = 0 ∧ c = 0 ∧ d = 0)) : 0 < gT a b c d := by
 unfold gT
 have h2 : Int.gcd ((Int.gcd a b : Nat) : Int) ((Int.gcd c d : Nat) : Int) ≠ 0 := by
  intro e
  rw [Int.gcd_eq_zero_iff] at e
  have e1 : Int.gcd a b = 0 := by omega
  have e2 : Int.gcd c d = 0 := by omega
  rw [Int.gcd_eq_zero_iff] at e1 e2
  exact h ⟨e1.1, e1.2, e2.1, e2.2⟩
 omega
theorem kU (a b c d : Int) : ((Int.gcd ((Int.gcd ((Int.gcd ((Int.gcd 0 a : Nat) : Int) b : Nat) : Int) c : Nat) : Int) d : Nat) : Int) = gT a b c d := by
 unfold gT
 have h1 : Int.gcd ((Int.gcd 0 a : Nat) : Int) b = Int.gcd a b := by
  rw [Int.gcd_zero_left]
  show Nat.gcd (a.natAbs : Int).natAbs b.natAbs = Nat.gcd a.natAbs b.natAbs
  rw [Int.natAbs_natCast]
 rw [h1]
 show ((Nat.gcd (Nat.gcd (Int.gcd a b) c.natAbs) d.natAbs : Nat) : Int) = ((Nat.gcd (Int.gcd a b) (Nat.gcd c.natAbs d.natAbs) : Nat) : Int)
 rw [Nat.gcd_assoc]
theorem tR {a b c d : Int} (h : ¬ (a = 0 ∧ b = 0 ∧ c = 0 ∧ d = 0)) : sT a b c d ≠ 0 := by
 have := uc h
 unfold sT
 split <;> omega
theorem eE {f s : Int} (hf : f ≠ 0) (h : f.tdiv s = f) : s = 1 := by
 have hn : f.natAbs / s.natAbs = f.natAbs := by
  have e : (f.tdiv s).natAbs = f.natAbs / s.natAbs := Int.natAbs_tdiv f s
  rw [← e, h]
 have h0 : s.natAbs ≠ 0 := by
  intro e
  rw [e, Nat.div_zero] at hn
  omega
 have h1 : s.natAbs < 2 := by
  rcases Nat.lt_or_ge s.natAbs 2 with h | h
  ·exact h
  ·have := Nat.div_lt_self (n := f.natAbs) (k := s.natAbs) (by omega) h
   omega
 rcases (show s = 1 ∨ s = -1 by omega) with e | e
 ·exact e
 ·rw [e, Int.tdiv_neg, Int.tdiv_one] at h
  omega
theorem nY {m x s : Int} (hx : -m ≤ x ∧ x ≤ m) : -m ≤ x.tdiv s ∧ x.tdiv s ≤ m := by
 have h : (x.tdiv s).natAbs ≤ x.natAbs := by rw [Int.natAbs_tdiv]; exact Nat.div_le_self _ _
 omega
theorem lV {a b c d : Int} (hz : ¬ (a = 0 ∧ b = 0 ∧ c = 0 ∧ d = 0)) :
  eqT a b c d (a.tdiv (sT a b c d)) (b.tdiv (sT a b c d)) (c.tdiv (sT a b c d)) (d.tdiv (sT a b c d)) = (decide (0 < fT a b c d) && decide (gT a b c d = 1)) := by
 have hf : fT a b c d ≠ 0 := fun e => hz (kp.1 e)
 rw [Bool.eq_iff_iff, Bool.and_eq_true, decide_eq_true_iff, decide_eq_true_iff]
 unfold eqT
 rw [decide_eq_true_iff]
 constructor
 ·rintro ⟨h1, h2, h3, h4⟩
  have hs : sT a b c d = 1 := by
   rcases tY a b c d with e | e | e | e
   ·exact eE (e ▸ hf) h1.symm
   ·exact eE (e ▸ hf) h2.symm
   ·exact eE (e ▸ hf) h3.symm
   ·exact eE (e ▸ hf) h4.symm
  have hg := qX a b c d
  unfold sT at hs
  split at hs <;> omega
 ·rintro ⟨h1, h2⟩
  have hs : sT a b c d = 1 := by unfold sT; rw [if_neg (by omega), h2]
  rw [hs]
  simp [Int.tdiv_one]
theorem bP {a b c d : Int} : aC a b c d = true ↔ inT 5 a b c d = true ∧ 0 < fT a b c d ∧ gT a b c d = 1 := by
 simp [aC, and_assoc]
theorem dK {a b c d : Int} (h : aC a b c d = true) : ¬ (a = 0 ∧ b = 0 ∧ c = 0 ∧ d = 0) := by
 have := (bP.1 h).2.1
 intro e
 rw [kp.2 e] at this
 omega
def ofC (a b c d : Int) : Int :=
 if inT 1000 a b c d && !fy a b c d then
  if aC (a.tdiv (sT a b c d)) (b.tdiv (sT a b c d)) (c.tdiv (sT a b c d)) (d.tdiv (sT a b c d)) then 0 else 9
 else 1
def ofP (a b c d x : Int) : Int := if ofC a b c d = 0 then x.tdiv (sT a b c d) else 0
theorem sC {a b c d : Int} (h : (inT 1000 a b c d && !fy a b c d) = false) : ofC a b c d = 1 := by unfold ofC; rw [h]; rfl
theorem gU {a b c d : Int} : fy a b c d = true ↔ (a = 0 ∧ b = 0 ∧ c = 0 ∧ d = 0) := by simp [fy]
theorem tZ (a b c d : Int) : fT (-a) (-b) (-c) (-d) = -fT a b c d := by
 unfold fT
 by_cases h1 : a = 0
 ·by_cases h2 : b = 0
  ·by_cases h3 : c = 0
   ·simp [h1, h2, h3]
   ·simp [h1, h2, h3]
  ·simp [h1, h2]
 ·simp [h1]
def nT (a b c d : Int) : Int := a * a + b * b + c * c + d * d
theorem sqn (x : Int) : 0 ≤ x * x := by rw [← Int.natAbs_mul_self' x]; exact Int.natCast_nonneg _
theorem sqp {x : Int} (h : x ≠ 0) : 0 < x * x := by
 have := sqn x
 have : x * x ≠ 0 := fun e => by rcases Int.mul_eq_zero.1 e with e | e <;> exact h e
 omega
theorem iw {a b c d : Int} (h : ¬ (a = 0 ∧ b = 0 ∧ c = 0 ∧ d = 0)) : 0 < nT a b c d := by
 have h1 := sqn a
 have h2 := sqn b
 have h3 := sqn c
 have h4 := sqn d
 unfold nT
 by_cases ha : a = 0
 ·by_cases hb : b = 0
  ·by_cases hc : c = 0
   ·have := sqp (x := d) (fun e => h ⟨ha, hb, hc, e⟩); omega
   ·have := sqp hc; omega
  ·have := sqp hb; omega
 ·have := sqp ha; omega
theorem uw {a b c d : Int} (h : inT 5 a b c d = true) : nT a b c d ≤ 100 := by
 rw [ew] at h
 have h1 := bW h.1 h.1
 have h2 := bW h.2.1 h.2.1
 have h3 := bW h.2.2.1 h.2.2.1
 have h4 := bW h.2.2.2 h.2.2.2
 unfold nT
 omega
def apX (a b c d x y z : Int) : Int := (a * a + b * b - c * c - d * d) * x + 2 * (b * c - a * d) * y + 2 * (b * d + a * c) * z
def apY (a b c d x y z : Int) : Int := 2 * (b * c + a * d) * x + (a * a - b * b + c * c - d * d) * y + 2 * (c * d - a * b) * z
def apZ (a b c d x y z : Int) : Int := 2 * (b * d - a * c) * x + 2 * (c * d + a * b) * y + (a * a - b * b - c * c + d * d) * z
theorem eK (a b c d x y z x' y' z' : Int) :
  dot (apX a b c d x y z) (apY a b c d x y z) (apZ a b c d x y z) (apX a b c d x' y' z') (apY a b c d x' y' z') (apZ a b c d x' y' z') = nT a b c d * nT a b c d * dot x y z x' y' z' := by
 unfold dot apX apY apZ nT
 grind
theorem sX (a b c d x y z : Int) :
  apX a (-b) (-c) (-d) (apX a b c d x y z) (apY a b c d x y z) (apZ a b c d x y z) = nT a b c d * nT a b c d * x ∧
  apY a (-b) (-c) (-d) (apX a b c d x y z) (apY a b c d x y z) (apZ a b c d x y z) = nT a b c d * nT a b c d * y ∧
  apZ a (-b) (-c) (-d) (apX a b c d x y z) (apY a b c d x y z) (apZ a b c d x y z) = nT a b c d * nT a b c d * z := by
 unfold apX apY apZ nT
 refine ⟨?_, ?_, ?_⟩ <;> grind
theorem rP (k a b c d x y z : Int) : apX a b c d (k * x) (k * y) (k * z) = k * apX a b c d x y z ∧ apY a b c d (k * x) (k * y) (k * z) = k * apY a b c d x y z ∧ apZ a b c d (k * x) (k * y) (k * z) = k * apZ a b c d x y z := by
 unfold apX apY apZ
 refine ⟨?_, ?_, ?_⟩ <;> grind
def coA (s1 s2 s3 s4 t1 t2 t3 t4 : Int) : Int := s1 * t1 - s2 * t2 - s3 * t3 - s4 * t4
def coB (s1 s2 s3 s4 t1 t2 t3 t4 : Int) : Int := s1 * t2 + s2 * t1 + s3 * t4 - s4 * t3
def coC (s1 s2 s3 s4 t1 t2 t3 t4 : Int) : Int := s1 * t3 - s2 * t4 + s3 * t1 + s4 * t2
def coD (s1 s2 s3 s4 t1 t2 t3 t4 : Int) : Int := s1 * t4 + s2 * t3 - s3 * t2 + s4 * t1
theorem ut (s1 s2 s3 s4 t1 t2 t3 t4 x y z : Int) :
  apX (coA s1 s2 s3 s4 t1 t2 t3 t4) (coB s1 s2 s3 s4 t1 t2 t3 t4) (coC s1 s2 s3 s4 t1 t2 t3 t4) (coD s1 s2 s3 s4 t1 t2 t3 t4) x y z = apX s1 s2 s3 s4 (apX t1 t2 t3 t4 x y z) (apY t1 t2 t3 t4 x y z) (apZ t1 t2 t3 t4 x y z) ∧
  apY (coA s1 s2 s3 s4 t1 t2 t3 t4) (coB s1 s2 s3 s4 t1 t2 t3 t4) (coC s1 s2 s3 s4 t1 t2 t3 t4) (coD s1 s2 s3 s4 t1 t2 t3 t4) x y z = apY s1 s2 s3 s4 (apX t1 t2 t3 t4 x y z) (apY t1 t2 t3 t4 x y z) (apZ t1 t2 t3 t4 x y z) ∧
  apZ (coA s1 s2 s3 s4 t1 t2 t3 t4) (coB s1 s2 s3 s4 t1 t2 t3 t4) (coC s1 s2 s3 s4 t1 t2 t3 t4) (coD s1 s2 s3 s4 t1 t2 t3 t4) x y z = apZ s1 s2 s3 s4 (apX t1 t2 t3 t4 x y z) (apY t1 t2 t3 t4 x y z) (apZ t1 t2 t3 t4 x y z) := by
 unfold apX apY apZ coA coB coC coD
 refine ⟨?_, ?_, ?_⟩ <;> grind
theorem tJ {a b c d x y z : Int} (ht : inT 5 a b c d = true) (hv : aF 1800 x y z = true) :
  wrap64 (wrap64 (wrap64 (wrap64 (wrap64 (wrap64 (wrap64 (a * a) + wrap64 (b * b)) - wrap64 (c * c)) - wrap64 (d * d)) * x) + wrap64 (wrap64 (2 * wrap64 (wrap64 (b * c) - wrap64 (a * d))) * y)) + wrap64 (wrap64 (2 * wrap64 (wrap64 (b * d) + wrap64 (a * c))) * z)) = apX a b c d x y z := by
 obtain ⟨ha, hb, hc, hd⟩ := ew.1 ht
 have h1 := bW ha ha
 have h2 := bW hb hb
 have h3 := bW hc hc
 have h4 := bW hd hd
 have h5 := bW hb hc
 have h6 := bW ha hd
 have h7 := bW hb hd
 have h8 := bW ha hc
 rw [ay (n := a * a) (by omega) (by omega), ay (n := b * b) (by omega) (by omega), ay (n := c * c) (by omega) (by omega), ay (n := d * d) (by omega) (by omega), ay (n := b * c) (by omega) (by omega), ay (n := a * d) (by omega) (by omega), ay (n := b * d) (by omega) (by omega), ay (n := a * c) (by omega) (by omega),
  ay (n := a * a + b * b) (by omega) (by omega), ay (n := a * a + b * b - c * c) (by omega) (by omega), ay (n := a * a + b * b - c * c - d * d) (by omega) (by omega), ay (n := b * c - a * d) (by omega) (by omega), ay (n := b * d + a * c) (by omega) (by omega), ay (n := 2 * (b * c - a * d)) (by omega) (by omega), ay (n := 2 * (b * d + a * c)) (by omega) (by omega)]
 exact bK (A := 100) (B := 1800) (aK.2 ⟨by omega, by omega, by omega⟩) hv (by omega)
theorem tK {a b c d x y z : Int} (ht : inT 5 a b c d = true) (hv : aF 1800 x y z = true) :
  wrap64 (wrap64 (wrap64 (wrap64 (2 * wrap64 (wrap64 (b * c) + wrap64 (a * d))) * x) + wrap64 (wrap64 (wrap64 (wrap64 (wrap64 (a * a) - wrap64 (b * b)) + wrap64 (c * c)) - wrap64 (d * d)) * y)) + wrap64 (wrap64 (2 * wrap64 (wrap64 (c * d) - wrap64 (a * b))) * z)) = apY a b c d x y z := by
 obtain ⟨ha, hb, hc, hd⟩ := ew.1 ht
 have h1 := bW ha ha
 have h2 := bW hb hb
 have h3 := bW hc hc
 have h4 := bW hd hd
 have h5 := bW hb hc
 have h6 := bW ha hd
 have h7 := bW hc hd
 have h8 := bW ha hb
 rw [ay (n := a * a) (by omega) (by omega), ay (n := b * b) (by omega) (by omega), ay (n := c * c) (by omega) (by omega), ay (n := d * d) (by omega) (by omega), ay (n := b * c) (by omega) (by omega), ay (n := a * d) (by omega) (by omega), ay (n := c * d) (by omega) (by omega), ay (n := a * b) (by omega) (by omega),
  ay (n := a * a - b * b) (by omega) (by omega), ay (n := a * a - b * b + c * c) (by omega) (by omega), ay (n := a * a - b * b + c * c - d * d) (by omega) (by omega), ay (n := b * c + a * d) (by omega) (by omega), ay (n := c * d - a * b) (by omega) (by omega), ay (n := 2 * (b * c + a * d)) (by omega) (by omega), ay (n := 2 * (c * d - a * b)) (by omega) (by omega)]
 exact bK (A := 100) (B := 1800) (aK.2 ⟨by omega, by omega, by omega⟩) hv (by omega)
theorem tL {a b c d x y z : Int} (ht : inT 5 a b c d = true) (hv : aF 1800 x y z = true) :
  wrap64 (wrap64 (wrap64 (wrap64 (2 * wrap64 (wrap64 (b * d) - wrap64 (a * c))) * x) + wrap64 (wrap64 (2 * wrap64 (wrap64 (c * d) + wrap64 (a * b))) * y)) + wrap64 (wrap64 (wrap64 (wrap64 (wrap64 (a * a) - wrap64 (b * b)) - wrap64 (c * c)) + wrap64 (d * d)) * z)) = apZ a b c d x y z := by
 obtain ⟨ha, hb, hc, hd⟩ := ew.1 ht
 have h1 := bW ha ha
 have h2 := bW hb hb
 have h3 := bW hc hc
 have h4 := bW hd hd
 have h5 := bW hb hd
 have h6 := bW ha hc
 have h7 := bW hc hd
 have h8 := bW ha hb
 rw [ay (n := a * a) (by omega) (by omega), ay (n := b * b) (by omega) (by omega), ay (n := c * c) (by omega) (by omega), ay (n := d * d) (by omega) (by omega), ay (n := b * d) (by omega) (by omega), ay (n := a * c) (by omega) (by omega), ay (n := c * d) (by omega) (by omega), ay (n := a * b) (by omega) (by omega),
  ay (n := a * a - b * b) (by omega) (by omega), ay (n := a * a - b * b - c * c) (by omega) (by omega), ay (n := a * a - b * b - c * c + d * d) (by omega) (by omega), ay (n := b * d - a * c) (by omega) (by omega), ay (n := c * d + a * b) (by omega) (by omega), ay (n := 2 * (b * d - a * c)) (by omega) (by omega), ay (n := 2 * (c * d + a * b)) (by omega) (by omega)]
 exact bK (A := 100) (B := 1800) (aK.2 ⟨by omega, by omega, by omega⟩) hv (by omega)
def apR (a b c d x y z : Int) : Bool := aC a b c d && bz x y z
def apI (r : Bool) (v : Int) : Int := if r then v else 0
theorem rN {x m : Int} (hm : 0 ≤ m) (h : x * x ≤ m * m) : -m ≤ x ∧ x ≤ m := by
 have h1 : x.natAbs * x.natAbs ≤ m.natAbs * m.natAbs := by
  have e1 := Int.natAbs_mul_self' x
  have e2 := Int.natAbs_mul_self' m
  omega
 have := Nat.mul_self_le_mul_self_iff.1 h1
 omega
theorem oe {a b c d x y z D M : Int} (ht : aC a b c d = true) (hD : dot x y z x y z ≤ D) (hM : 0 ≤ M) (h : 10000 * D ≤ M * M) : aF M (apX a b c d x y z) (apY a b c d x y z) (apZ a b c d x y z) = true := by
 have hn := uw (bP.1 ht).1
 have hp := iw (dK ht)
 have hn2 := bW (A := 100) (B := 100) (a := nT a b c d) (b := nT a b c d) (by omega) (by omega)
 have hd := eK a b c d x y z x y z
 have h0 : 0 ≤ dot x y z x y z := by have h1 := sqn x; have h2 := sqn y; have h3 := sqn z; unfold dot; omega
 have hm := bW (A := 10000) (B := D) (a := nT a b c d * nT a b c d) (b := dot x y z x y z) (by omega) (by omega)
 have s1 := sqn (apX a b c d x y z)
 have s2 := sqn (apY a b c d x y z)
 have s3 := sqn (apZ a b c d x y z)
 have hdd : dot (apX a b c d x y z) (apY a b c d x y z) (apZ a b c d x y z) (apX a b c d x y z) (apY a b c d x y z) (apZ a b c d x y z) = apX a b c d x y z * apX a b c d x y z + apY a b c d x y z * apY a b c d x y z + apZ a b c d x y z * apZ a b c d x y z := rfl
 rw [aK]
 exact ⟨rN hM (by omega), rN hM (by omega), rN hM (by omega)⟩
theorem tM {a b c d x y z : Int} (ht : aC a b c d = true) (hz : ¬ (x = 0 ∧ y = 0 ∧ z = 0)) : ¬ (apX a b c d x y z = 0 ∧ apY a b c d x y z = 0 ∧ apZ a b c d x y z = 0) := by
 rintro ⟨h1, h2, h3⟩
 have hp := iw (dK ht)
 have hd := eK a b c d x y z x y z
 rw [h1, h2, h3] at hd
 have := Int.mul_pos (Int.mul_pos hp hp) (eV hz)
 rw [← hd] at this
 exact absurd this (by decide)
theorem iR {M x y z : Int} (hM : M ≤ 1000000) (h : aF M x y z = true) (hz : ¬ (x = 0 ∧ y = 0 ∧ z = 0)) : aq x y z = true := by
 rw [aK] at h
 rw [aI]
 exact ⟨by omega, hz⟩
theorem tI {x y z : Int} (h : aF 1800 x y z = true) (hz : ¬ (x = 0 ∧ y = 0 ∧ z = 0)) : bz x y z = true := by
 unfold bz
 rw [iR (by omega) h hz, h]; rfl
theorem mM {k x : Int} (hk : 0 < k) : ssq (k * x) = k * k * ssq x := by
 unfold ssq
 by_cases h : x < 0
 ·rw [if_pos h, if_pos (Int.mul_neg_of_pos_of_neg hk h)]; grind
 ·rw [if_neg h, if_neg (by have := Int.mul_nonneg (Int.le_of_lt hk) (by omega : 0 ≤ x); omega)]; grind
theorem ua (x y z : Int) : gI x y z ∣ x ∧ gI x y z ∣ y ∧ gI x y z ∣ z := by
 have h1 := Int.gcd_dvd_left (a := ((Int.gcd x y : Nat) : Int)) (b := z)
 exact ⟨Int.dvd_trans h1 (Int.gcd_dvd_left ..), Int.dvd_trans h1 (Int.gcd_dvd_right ..), Int.gcd_dvd_right ..⟩
theorem oV {x y z : Int} (h : aq x y z = true) : ∃ p q r : Int, prI true (gI x y z) x = p ∧ prI true (gI x y z) y = q ∧ prI true (gI x y z) z = r ∧ x = gI x y z * p ∧ y = gI x y z * q ∧ z = gI x y z * r ∧ 0 < gI x y z := by
 have hg := pB h
 have hb := (aI.1 h).1
 obtain ⟨⟨p, hp⟩, ⟨q, hq⟩, ⟨r, hr⟩⟩ := ua x y z
 have key : ∀ {n k : Int}, (-1000000 ≤ n ∧ n ≤ 1000000) → n = gI x y z * k → prI true (gI x y z) n = k := by
  intro n k hn e
  have e1 : n.tdiv (gI x y z) = k := by rw [e]; exact Int.mul_tdiv_cancel_left k (by omega)
  have hb := nY (s := gI x y z) hn
  unfold prI
  rw [if_pos rfl, e1]
  rw [e1] at hb
  exact ay (by omega) (by omega)
 exact ⟨p, q, r, key hb.1 hp, key hb.2.1 hq, key hb.2.2 hr, hp, hq, hr, hg⟩
theorem nK {g p m : Int} (hg : 0 < g) (h : -m ≤ g * p ∧ g * p ≤ m) : -m ≤ p ∧ p ≤ m := by
 have h1 : (g * p).natAbs = g.natAbs * p.natAbs := Int.natAbs_mul g p
 have h2 : p.natAbs ≤ g.natAbs * p.natAbs := Nat.le_mul_of_pos_left _ (by omega)
 omega
theorem lr (p q : D3) : aS p q = aS q p := by
 unfold aS
 by_cases hp : aq p.1 p.2.1 p.2.2 = true
 ·by_cases hq : aq q.1 q.2.1 q.2.2 = true
  ·exact gp hp hq
  ·rw [Bool.not_eq_true] at hq
   unfold bv
   rw [hq]
   simp
 ·rw [Bool.not_eq_true] at hp
  unfold bv
  rw [hp]
  simp
theorem pf {a1 a2 a3 b1 b2 b3 : Int} (ha : aF 1000000 a1 a2 a3 = true) (hb : aF 1000000 b1 b2 b3 = true) :
  (decide (crW a2 a3 b2 b3 = 0 ∧ crW a3 a1 b3 b1 = 0 ∧ crW a1 a2 b1 b2 = 0) && decide (0 < bf a1 a2 a3 b1 b2 b3)) = bv a1 a2 a3 b1 b2 b3 := by
 unfold bv aq
 rw [ha, hb]
 by_cases za : a1 = 0 ∧ a2 = 0 ∧ a3 = 0
 ·obtain ⟨rfl, rfl, rfl⟩ := za
  have : bf 0 0 0 b1 b2 b3 = 0 := by have z : wrap64 0 = 0 := ay (by omega) (by omega); unfold bf; simp [z]
  rw [this]
  simp [el]
 ·by_cases zb : b1 = 0 ∧ b2 = 0 ∧ b3 = 0
  ·obtain ⟨rfl, rfl, rfl⟩ := zb
   have : bf a1 a2 a3 0 0 0 = 0 := by have z : wrap64 0 = 0 := ay (by omega) (by omega); unfold bf; simp [z]
   rw [this]
   simp [el]
  ·have h1 : el a1 a2 a3 = false := by unfold el; simp only [decide_eq_false_iff_not]; exact za
   have h2 : el b1 b2 b3 = false := by unfold el; simp only [decide_eq_false_iff_not]; exact zb
   rw [h1, h2]
   rfl
theorem gu {x y z : Int} (h : aH x y z = true) : bz x y z = true := by
 obtain ⟨h1, h2⟩ := bd h
 unfold bz
 rw [h1, Bool.true_and, aK]
 rw [aK] at h2
 omega
def apD (a b c d : Int) (v : D3) : D3 := (apX a b c d v.1 v.2.1 v.2.2, apY a b c d v.1 v.2.1 v.2.2, apZ a b c d v.1 v.2.1 v.2.2)
theorem ip {a b c d : Int} {v : D3} (ht : aC a b c d = true) (hv : aH v.1 v.2.1 v.2.2 = true) : aF 1000000 (apD a b c d v).1 (apD a b c d v).2.1 (apD a b c d v).2.2 = true := by
 refine oe (D := 300) ht ?_ (by omega) (by omega)
 have h := bA (bd hv).2 (bd hv).2
 omega
def dy (L : List St) (a b c d : Int) (v : D3) : Nat → Int
 | 0 => 0
 | k + 1 => if aS v (apD a b c d (stA L k).2) = true then (stA L k).1 else dy L a b c d v k
def gF (L : List St) (a b c d : Int) (S : List D3) : Bool := aL L && aC a b c d && aM S
def aX (L : List St) (a b c d : Int) (S : List D3) : List Int := if gF L a b c d S = true then S.map (fun v => dy L a b c d v L.length) else []
theorem jo {L : List St} {a b c d : Int} {S : List D3} (h : aL L = false) : aX L a b c d S = [] := by unfold aX gF; rw [h]; rfl
theorem mF {L : List St} {a b c d : Int} {S : List D3} (h : aC a b c d = false) : aX L a b c d S = [] := by unfold aX gF; rw [h, Bool.and_false]; rfl
theorem jp {L : List St} {a b c d : Int} {S : List D3} (h : aM S = false) : aX L a b c d S = [] := by unfold aX gF; rw [h, Bool.and_false]; rfl
theorem jq {L : List St} {a b c d : Int} {S : List D3} (h1 : aL L = true) (h2 : aC a b c d = true) (h3 : aM S = true) : aX L a b c d S = S.map (fun v => dy L a b c d v L.length) := by unfold aX gF; rw [h1, h2, h3]; rfl
theorem mE (L : List St) (a b c d : Int) (S : List D3) : (aX L a b c d S).length ≤ 6 := by
 unfold aX
 split
 ·rename_i h
  unfold gF at h
  rw [Bool.and_eq_true] at h
  rw [List.length_map]
  exact (bc h.2).1
 ·simp
end
section
open Go.RowKit
theorem yz {p : Prop} (h : p) : Hid p := h
theorem yy {p : Prop} (h : Hid p) : p := h
end
section
open Go.RowKit
theorem ak (w : World) (a : Obj) : Below w.heap.size w (w.alloc a) := (Below.refl _ _).alloc (Nat.le_refl _) _
theorem bj (w : World) (a b : Obj) : Below w.heap.size w ((w.alloc a).alloc b) := (ak w a).alloc (by simp) _
theorem fW (w : World) (a b c : Obj) : Below w.heap.size w (((w.alloc a).alloc b).alloc c) := (bj w a b).alloc (by simp; omega) _
theorem aj {w w1 w2 : World} (h : Below w.heap.size w w1) (h2 : Below w1.heap.size w1 w2) : Below w.heap.size w w2 := h.trans (h2.mono h.size)
theorem mK (x y z : Int) (w : World) :
  Calls Tryz.prog 102 #[.agg #[.int .i64 x, .int .i64 y, .int .i64 z]] w fun e w' => e = .returned (.agg #[.int .i64 x, .int .i64 y, .int .i64 z]) ∧ Below w.heap.size w w' := by
 go_enter Tryz.func102, Tryz.ntmps102
 go_wp2
 exact bodyPost_ret (v := .agg #[.int .i64 x, .int .i64 y, .int .i64 z]) (by simp [results, Tryz.results102, go_sem]) rfl ⟨rfl, bj _ _ _⟩
theorem jA (a1 a2 a3 b1 b2 b3 : Int) (w : World) :
  Calls Tryz.prog 101 #[.agg #[.int .i64 a1, .int .i64 a2, .int .i64 a3], .agg #[.int .i64 b1, .int .i64 b2, .int .i64 b3]] w fun e w' => e = .returned (.int .i64 (bf a1 a2 a3 b1 b2 b3)) ∧ Below w.heap.size w w' := by
 go_enter Tryz.func101, Tryz.ntmps101
 go_wp2
 go_ret
 exact ⟨rfl, bj _ _ _⟩
theorem dC (a1 a2 a3 b1 b2 b3 : Int) (w : World) :
  Calls Tryz.prog 82 #[.agg #[.int .i64 a1, .int .i64 a2, .int .i64 a3], .agg #[.int .i64 b1, .int .i64 b2, .int .i64 b3]] w fun e w' => e = .returned (.int .i64 (bf a1 a2 a3 b1 b2 b3)) ∧ Below w.heap.size w w' := by
 go_enter Tryz.func82, Tryz.ntmps82
 go_wp2
 go_ret
 exact ⟨rfl, bj _ _ _⟩
theorem cB (n lo hi : Int) (w : World) :
  Calls Tryz.prog 53 #[.int .i64 n, .int .i64 lo, .int .i64 hi] w fun e w' => e = .returned (.bool (decide (lo ≤ n) && decide (n ≤ hi))) ∧ w' = w := by
 by_cases h : lo ≤ n
 ·go_enter Tryz.func53, Tryz.ntmps53
  go_wp2
  go_ret
  exact ⟨by simp [h], rfl⟩
 ·go_enter Tryz.func53, Tryz.ntmps53
  go_wp2
  go_ret
  exact ⟨by simp; omega, rfl⟩
theorem iP {m x : Int} (h : ¬ (-m ≤ x ∧ x ≤ m)) : inB m x = false := by simpa [inB] using h
theorem iC (m x y z : Int) (w : World) (hm0 : 0 ≤ m) (hm : m ≤ 1000000) :
  Calls Tryz.prog 80 #[.agg #[.int .i64 x, .int .i64 y, .int .i64 z], .int .i64 m] w fun e w' => e = .returned (.bool (aF m x y z)) ∧ Below w.heap.size w w' := by
 have i0 : ∀ w : World, (Instr.index 132 (.agg #[.int .i64 x, .int .i64 y, .int .i64 z]) (.int .i64 0)).run Tryz.prog w = .ok (.int .i64 x) w := fun _ => by kernel_rfl
 have i1 : ∀ w : World, (Instr.index 132 (.agg #[.int .i64 x, .int .i64 y, .int .i64 z]) (.int .i64 1)).run Tryz.prog w = .ok (.int .i64 y) w := fun _ => by kernel_rfl
 have i2 : ∀ w : World, (Instr.index 132 (.agg #[.int .i64 x, .int .i64 y, .int .i64 z]) (.int .i64 2)).run Tryz.prog w = .ok (.int .i64 z) w := fun _ => by kernel_rfl
 have hwr : wrap64 (-m) = -m := ay (by omega) (by omega)
 go_enter Tryz.func80, Tryz.ntmps80
 go_wp2_with fail
 refine (mK x y z _).mono ?_
 rintro e w1 ⟨rfl, hB1⟩
 have hB : Below w.heap.size w w1 := aj (ak _ _) hB1
 clear hB1
 go_wp2_with fail
 go_loop [9] (fun i => ∃ k : Nat, k ≤ 3 ∧ i = .int .i64 k ∧ Hid (0 < k → inB m x = true) ∧ Hid (1 < k → inB m y = true) ∧ Hid (2 < k → inB m z = true)) (fun i => 3 - (intOf i).toNat)
 case atStart => exact ⟨0, Nat.zero_le _, rfl, yz (by omega), yz (by omega), yz (by omega)⟩
 case round =>
  obtain ⟨k, hk, rfl, hx, hy, hz⟩ := hrel
  have hk4 : k = 0 ∨ k = 1 ∨ k = 2 ∨ k = 3 := by omega
  rcases hk4 with rfl | rfl | rfl | rfl
  ·by_cases q1 : -m ≤ x
   ·by_cases q2 : x ≤ m
    ·have HI := yz (eu.2 ⟨q1, q2⟩)
     go_wp2
     go_round
     case rel => exact ⟨1, by omega, rfl, yz (fun _ => yy HI), yz (by omega), yz (by omega)⟩
     case measure => simp [intOf]
    ·have HO := yz (iP (m := m) (x := x) (fun h => q2 h.2))
     go_wp2
     go_ret
     exact ⟨by simp [aF, yy HO], hB⟩
   ·have HO := yz (iP (m := m) (x := x) (fun h => q1 h.1))
    go_wp2
    go_ret
    exact ⟨by simp [aF, yy HO], hB⟩
  ·by_cases q1 : -m ≤ y
   ·by_cases q2 : y ≤ m
    ·have HI := yz (eu.2 ⟨q1, q2⟩)
     go_wp2
     go_round
     case rel => exact ⟨2, by omega, rfl, yz (fun _ => yy hx (by omega)), yz (fun _ => yy HI), yz (by omega)⟩
     case measure => simp [intOf]
    ·have HO := yz (iP (m := m) (x := y) (fun h => q2 h.2))
     go_wp2
     go_ret
     exact ⟨by simp [aF, yy HO], hB⟩
   ·have HO := yz (iP (m := m) (x := y) (fun h => q1 h.1))
    go_wp2
    go_ret
    exact ⟨by simp [aF, yy HO], hB⟩
  ·by_cases q1 : -m ≤ z
   ·by_cases q2 : z ≤ m
    ·have HI := yz (eu.2 ⟨q1, q2⟩)
     go_wp2
     go_round
     case rel => exact ⟨3, by omega, rfl, yz (fun _ => yy hx (by omega)), yz (fun _ => yy hy (by omega)), yz (fun _ => yy HI)⟩
     case measure => simp [intOf]
    ·have HO := yz (iP (m := m) (x := z) (fun h => q2 h.2))
     go_wp2
     go_ret
     exact ⟨by simp [aF, yy HO], hB⟩
   ·have HO := yz (iP (m := m) (x := z) (fun h => q1 h.1))
    go_wp2
    go_ret
    exact ⟨by simp [aF, yy HO], hB⟩
  ·go_wp2
   go_ret
   exact ⟨by simp [aF, yy hx (by omega), yy hy (by omega), yy hz (by omega)], hB⟩
def eqB (a1 a2 a3 b1 b2 b3 : Int) : Bool := decide (a1 = b1 ∧ a2 = b2 ∧ a3 = b3)
theorem mr (a1 a2 a3 b1 b2 b3 : Int) (w : World) : (Op.equalIn 10000 67 (.agg #[.int .i64 a1, .int .i64 a2, .int .i64 a3]) (.agg #[.int .i64 b1, .int .i64 b2, .int .i64 b3])).run Tryz.prog w = .ok (eqB a1 a2 a3 b1 b2 b3) w := by
 have h := run_equalIn_struct (P := Tryz.prog) w 9999 67 #[.int .i64 a1, .int .i64 a2, .int .i64 a3] #[.int .i64 b1, .int .i64 b2, .int .i64 b3] (by kernel_rfl) (by kernel_rfl)
 have hf : (Tryz.prog.fieldsOf 67).toList = (Tryz.prog.fieldsOf 67).toList := rfl
 refine h.trans ?_
 by_cases h1 : a1 = b1
 ·by_cases h2 : a2 = b2
  ·by_cases h3 : a3 = b3
   ·simp [go_sem, eqB, h1, h2, h3]
   ·simp [go_sem, eqB, h1, h2, h3]
  ·simp [go_sem, eqB, h1, h2]
 ·simp [go_sem, eqB, h1]
theorem gJ (a1 a2 a3 b1 b2 b3 : Int) (w : World) : (binOp .neq 67 (.agg #[.int .i64 a1, .int .i64 a2, .int .i64 a3]) (.agg #[.int .i64 b1, .int .i64 b2, .int .i64 b3])).run Tryz.prog w = .ok (.bool (!eqB a1 a2 a3 b1 b2 b3)) w := by
 rw [run_neq_struct, mr]; rfl
theorem ko (a1 a2 a3 b1 b2 b3 : Int) (w : World) : (binOp .eql 67 (.agg #[.int .i64 a1, .int .i64 a2, .int .i64 a3]) (.agg #[.int .i64 b1, .int .i64 b2, .int .i64 b3])).run Tryz.prog w = .ok (.bool (eqB a1 a2 a3 b1 b2 b3)) w := by
 rw [run_eql_struct, mr]; rfl
theorem bt (x y z : Int) (w : World) :
  Calls Tryz.prog 79 #[.agg #[.int .i64 x, .int .i64 y, .int .i64 z]] w fun e w' => e = .returned (.bool (aq x y z)) ∧ Below w.heap.size w w' := by
 have hn := fun w => gJ x y z 0 0 0 w
 cases hz : eqB x y z 0 0 0
 ·rw [hz] at hn
  have HR : Hid (aq x y z = aF 1000000 x y z) := yz (by unfold aq; rw [show el x y z = false from hz]; simp)
  go_enter Tryz.func79, Tryz.ntmps79
  go_wp2_with fail
  refine (iC 1000000 x y z _ (by omega) (by omega)).mono ?_
  rintro e w1 ⟨rfl, hB1⟩
  have hB : Below w.heap.size w w1 := aj (ak _ _) hB1
  clear hB1
  go_wp2_with fail
  go_ret
  exact ⟨by rw [yy HR]; rfl, hB⟩
 ·rw [hz] at hn
  have HR : Hid (aq x y z = false) := yz (by unfold aq; rw [show el x y z = true from hz]; simp)
  go_enter Tryz.func79, Tryz.ntmps79
  go_wp2_with fail
  go_ret
  exact ⟨by rw [yy HR]; rfl, ak _ _⟩
theorem isB (m x : Int) : (decide (-m ≤ x) && decide (x ≤ m)) = inB m x := by unfold inB; rw [Bool.decide_and]
theorem dz (m x y z : Int) (w : World) (hm0 : 0 ≤ m) (hm : m ≤ 1000000) :
  Calls Tryz.prog 55 #[.agg #[.int .i64 x, .int .i64 y, .int .i64 z], .int .i64 m] w fun e w' => e = .returned (.bool (aF m x y z)) ∧ Below w.heap.size w w' := by
 have hwr : wrap64 (-m) = -m := ay (by omega) (by omega)
 go_enter Tryz.func55, Tryz.ntmps55
 go_wp2_with fail
 refine (cB x (-m) m _).mono ?_
 rintro e w1 ⟨rfl, rfl⟩
 rw [isB]
 cases hx : inB m x
 ·go_wp2_with fail
  go_ret
  exact ⟨by simp [aF, hx], ak _ _⟩
 ·go_wp2_with fail
  refine (cB y (-m) m _).mono ?_
  rintro e w1 ⟨rfl, rfl⟩
  rw [isB]
  cases hy : inB m y
  ·go_wp2_with fail
   go_ret
   exact ⟨by simp [aF, hy], ak _ _⟩
  ·go_wp2_with fail
   refine (cB z (-m) m _).mono ?_
   rintro e w1 ⟨rfl, rfl⟩
   rw [isB]
   go_wp2_with fail
   go_ret
   exact ⟨by simp [aF, hx, hy], ak _ _⟩
theorem bN (x y z : Int) (w : World) :
  Calls Tryz.prog 54 #[.agg #[.int .i64 x, .int .i64 y, .int .i64 z]] w fun e w' => e = .returned (.bool (aq x y z)) ∧ Below w.heap.size w w' := by
 have hn := fun w => gJ x y z 0 0 0 w
 go_enter Tryz.func54, Tryz.ntmps54
 go_wp2_with fail
 refine (dz 1000000 x y z _ (by omega) (by omega)).mono ?_
 rintro e w1 ⟨rfl, hB1⟩
 have hB : Below w.heap.size w w1 := aj (ak _ _) hB1
 have hc : ∀ i : Nat, w1.cell? ⟨w.heap.size, i, none⟩ = _ := fun i => hB1.cell (p := ⟨w.heap.size, i, none⟩) (by simp)
 have c0 := hc 0
 have c1 := hc 1
 have c2 := hc 2
 simp at c0 c1 c2
 clear hB1 hc
 cases hx : aF 1000000 x y z
 ·go_wp2_with fail
  go_ret
  exact ⟨by simp [aq, hx], hB⟩
 ·go_wp2_with fail
  go_ret
  exact ⟨by simp [aq, hx]; rfl, hB⟩
end
section
open Go.RowKit Go.Extern.Stop Go.Stop Go.Extern
theorem sl (v : Value) (w : World) : (Extern.ReflectliteType.typeOf #[.iface 149 v]).run Tryz.prog w = .ok (.iface 136 (.agg #[.pointer (some ⟨1, 149, none⟩)])) w := by kernel_rfl
theorem nr (w : World) : (callFunc 131 #[.agg #[.pointer (some ⟨1, 149, none⟩)]]).run Tryz.prog w = .ok (Next.value (.bool true)) w :=
 (@run_callFunc_extern Tryz.prog 131 _ (Extern.ReflectliteType.method fun t => do Extern.Rtype.noPackHeld "Comparable" t; pure (.bool (← typeInfo t).comparable)) Tryz.func131 (by kernel_rfl) (by kernel_rfl) (by kernel_rfl) (by kernel_rfl) _ w).trans (by kernel_rfl)
theorem iu (v : Value) (w : World) : (Go.method 287 136 v "Comparable").run Tryz.prog w = .ok (131, v) w := by kernel_rfl
theorem ud : (Tryz.prog.info? 149).map (·.comparable) = some true := by kernel_rfl
theorem ue : (Tryz.prog.info? 175).map (·.size) = some 1 := by kernel_rfl
theorem uy (v : Value) (xT : TypeId) (w : World) : (Instr.typeAssert (.iface 122 v) xT 138 true).run Tryz.prog w = .ok (.tuple #[.nilIface, .bool false]) w := run_typeAssert_lacksB Tryz.underlying138 (by kernel_rfl) (by kernel_rfl) v xT w
theorem pC (v : Value) (xT : TypeId) (w : World) : (Instr.typeAssert (.iface 122 v) xT 141 true).run Tryz.prog w = .ok (.tuple #[.iface 122 v, .bool true]) w := run_typeAssert_hasB Tryz.underlying141 (by kernel_rfl) v xT w
theorem nB (v : Value) (w : World) : (Go.method 287 122 v "Unwrap").run Tryz.prog w = .ok (127, v) w := by kernel_rfl
def bg (b : Addr) (w : World) : Prop := w.cell? ⟨0, 0, none⟩ = some (.iface 149 (.pointer (some b)))
theorem bg.lt {b : Addr} {w : World} (h : bg b w) : 0 < w.heap.size := World.block_lt_of_cell? w _ h
theorem bg.kept {b : Addr} {w w' : World} (h : bg b w) (hB : Below w.heap.size w w') : bg b w' := by
 unfold bg
 rw [hB.cell (p := ⟨0, 0, none⟩) h.lt]
 exact h
theorem uf (b : Addr) (w : World) :
  Calls Tryz.prog 61 #[.nilIface, .iface 149 (.pointer (some b))] w fun e w' => e = .returned (.bool false) ∧ w' = w := by
 have hn := run_eql_iface_nil_left (P := Tryz.prog) w 149 (.pointer (some b)) Tryz.underlying95
 go_enter Tryz.func61, Tryz.ntmps61
 go_wp2
 go_ret
 exact ⟨rfl, rfl⟩
theorem qd (why : ByteArray) (b : Addr) (w : World) (h : bg b w) :
  Calls Tryz.prog 127 #[.agg #[.string why]] w fun e w' => e = .returned (.iface 149 (.pointer (some b))) ∧ Below w.heap.size w w' := by
 have h' : bg b (w.alloc (.cells #[.string why] 122)) := h.kept (ak _ _)
 unfold bg at h'
 go_enter Tryz.func127, Tryz.ntmps127
 go_wp2
 go_ret
 exact ⟨rfl, ak _ _⟩
theorem sn (why : ByteArray) (b : Addr) (w : World) (h : bg b w) :
  Calls Tryz.prog 61 #[.iface 122 (.agg #[.string why]), .iface 149 (.pointer (some b))] w fun e w' => e = .returned (.bool true) ∧ Below w.heap.size w w' := by
 obtain ⟨i, hi, hcmp⟩ := Option.map_eq_some_iff.1 ud
 obtain ⟨j, hj, hjs⟩ := Option.map_eq_some_iff.1 ue
 have h8 := @run_callFunc_extern Tryz.prog 88 _ Extern.ReflectliteType.typeOf Tryz.func88 (by kernel_rfl) (by kernel_rfl) (by kernel_rfl) (by kernel_rfl)
 have tT := sl
 have cT := nr
 have mR := iu
 have nW := uy
 have uW := pC
 have mU := nB
 have heq := fun w => run_eql_iface_ptr_same (P := Tryz.prog) w b Tryz.underlying95 Tryz.underlying149 hi hcmp hj
 have hty := fun w => run_eql_iface_types (P := Tryz.prog) 122 149 (.agg #[.string why]) (.pointer (some b)) Tryz.underlying95 (by decide) w
 have HE := yz h
 clear h
 go_enter Tryz.func61, Tryz.ntmps61
 go_wp2
 refine wp_loop_rounds 2 ?_
 rw [rounds_succ]
 go_wp2_with (go_at_call 127; refine (qd why b _ (yy HE)).mono ?_; rintro e w1 ⟨rfl, hx⟩)
 rw [rounds_succ]
 go_wp2
 go_ret
 exact ⟨rfl, hx⟩
end
section
open Go.RowKit Go.Sort
def SAt (w : World) (b : Nat) (vs : List Value) : Prop := ∀ i v, vs[i]? = some v → w.cell? ⟨b, i, none⟩ = some v
theorem SAt.lt {w : World} {b : Nat} {v : Value} {vs : List Value} (h : SAt w b (v :: vs)) : b < w.heap.size := World.block_lt_of_cell? w _ (h 0 v rfl)
theorem SAt.kept {w w' : World} {b : Nat} {v : Value} {vs : List Value} (h : SAt w b (v :: vs)) (hB : Below w.heap.size w w') : SAt w' b (v :: vs) := fun i u hu => by
 rw [hB.cell (p := ⟨b, i, none⟩) h.lt]; exact h i u hu
theorem SAt.c3 {w : World} {b : Nat} {x y z : Value} (h : SAt w b [x, y, z]) : w.cell? ⟨b, 0, none⟩ = some x ∧ w.cell? ⟨b, 1, none⟩ = some y ∧ w.cell? ⟨b, 2, none⟩ = some z := ⟨h 0 x rfl, h 1 y rfl, h 2 z rfl⟩
theorem SAt.c5 {w : World} {b : Nat} {x y z u v : Value} (h : SAt w b [x, y, z, u, v]) : w.cell? ⟨b, 0, none⟩ = some x ∧ w.cell? ⟨b, 1, none⟩ = some y ∧ w.cell? ⟨b, 2, none⟩ = some z ∧ w.cell? ⟨b, 3, none⟩ = some u ∧ w.cell? ⟨b, 4, none⟩ = some v := ⟨h 0 x rfl, h 1 y rfl, h 2 z rfl, h 3 u rfl, h 4 v rfl⟩
end
section
open Go.RowKit
end
end Go.Proofs.YtoakkmjcbnfljaaGreatDoor
