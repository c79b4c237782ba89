/- Several texts in one: Tz, Plain, VecMath, VecA, SkyA, SkyMath, VecB, VecC, VecD, VecF, VecG, VecE, VecH. -/
import Derived.Deep.RegionHeld
import Derived.WalkKit
import Derived.Laws.BitsAllLaws
import Derived.Test.YtlleafjdgblhcaaGreatDoorChecked
import Derived.Below
import Derived.Laws.StructEq
import Derived.WalkLawsBesides
import Derived.LaidEql
import Derived.Stop.Asserts
import Derived.RowKitTokens
import Derived.Deep.RegionWith
import Derived.Deep.QuietTactic
import Derived.BigQuiet
import Derived.BigRegion
import Derived.Lib.QuietBelow
namespace Go.Proofs.YtlleafjdgblhcaaGreatDoor
set_option linter.unusedVariables false
set_option linter.unusedSimpArgs false
set_option maxRecDepth 100000
set_option maxHeartbeats 8000000
section
theorem ac {P : Program} {ops : Array Oper} {Q : Exit → Act → World → Prop} {md : Region.Mode} {S : World → Prop} {fuel : Nat} {listed : Array Bool} {a : Act} {w : World} (i : Nat) {oi : Oper} {v : Value} (hi : ops[i]? = some oi) (h : wpAnyH P md ops Q S fuel (listed.setIfInBounds i true) (a.put oi.dst v) w) (hs : Region.noSelect ops = true := by kernel_rfl) (hf : Region.free md ops listed i = true := by kernel_rfl) (hr : (Region.ready md ops listed).contains i = true := by kernel_rfl) (hQ : ∀ c a w, Q (.panic c) (a.put oi.dst v) w → Q (.panic c) a w := by exact fun _ _ _ h => h) (hw : Region.wanted oi (yielded ops a.tmps) = true := by kernel_rfl) (hy : ∀ w, S w → (execOp a.eval oi).run P w = .ok (.value v) w := by (intro W0 hSw; (try dsimp only at hSw); go_simp <;> with_reducible rfl)) (hS : S w := by assumption) : wpAnyH P md ops Q S (fuel + 1) listed a w := wpAnyH_take hi hs hf hr hQ (Or.inl ⟨hw, hy⟩) hS h
theorem af {P : Program} {ops : Array Oper} {Q : Exit → Act → World → Prop} {md : Region.Mode} {S : World → Prop} {fuel : Nat} {listed : Array Bool} {a : Act} {w : World} (i : Nat) {o : Oper} (ho : ops[i]? = some o) (h : (∀ K' : Act → World → Prop, Shut (∀ a w, S w → (S w → wpAnyH P md ops Q S fuel (listed.setIfInBounds i true) a w) → K' a w) → if Region.wanted o (yielded ops a.tmps) = true then Oper.wp P o a w K' Q else K' (a.put o.dst undef) w)) (hr : Region.ready md ops listed = [i] := by kernel_rfl) : wpAnyH P md ops Q S (fuel + 1) listed a w := wpAnyH_ready hr (by simp) (AllReadyH.cons ho h AllReadyH.nil)
theorem ag {P : Program} {ops : Array Oper} {Q : Exit → Act → World → Prop} {md : Region.Mode} {S : World → Prop} {fuel : Nat} {listed : Array Bool} {a : Act} {w : World} (i j : Nat) {o u : Oper} (ho : ops[i]? = some o) (h : (∀ K' : Act → World → Prop, Shut (∀ a w, S w → (S w → wpAnyH P md ops Q S fuel (listed.setIfInBounds i true) a w) → K' a w) → if Region.wanted o (yielded ops a.tmps) = true then Oper.wp P o a w K' Q else K' (a.put o.dst undef) w)) (hu : ops[j]? = some u) (g : (∀ K' : Act → World → Prop, Shut (∀ a w, S w → (S w → wpAnyH P md ops Q S fuel (listed.setIfInBounds j true) a w) → K' a w) → if Region.wanted u (yielded ops a.tmps) = true then Oper.wp P u a w K' Q else K' (a.put u.dst undef) w)) (hr : Region.ready md ops listed = [i, j] := by kernel_rfl) : wpAnyH P md ops Q S (fuel + 1) listed a w := wpAnyH_ready hr (by simp) (AllReadyH.cons ho h (AllReadyH.cons hu g AllReadyH.nil))
theorem ah {α : Type} (i : Nat) (x : α) (l : List α) : l.toArray.setIfInBounds i x = (l.set i x).toArray := List.setIfInBounds_toArray ..
theorem ai {α : Type} (x y : α) (l : List α) : (x :: l).set 0 y = y :: l := rfl
theorem aj {α : Type} (x y : α) (l : List α) (n : Nat) : (x :: l).set (n + 1) y = x :: l.set n y := rfl
end
section
open Go.RowKit
theorem yz {p : Prop} (h : p) : Hid p := h
theorem yy {p : Prop} (h : Hid p) : p := h
def gu (s : ByteArray) (i : Nat) : Nat := if h : i < s.size then s[i].toNat else 0
theorem kq {s : ByteArray} {k : Nat} (h : k < s.size) : gu s k = s[k].toNat := by simp [gu, h]
end
section
open Go.RowKit
def inB (m x : Int) : Bool := decide (-m ≤ x ∧ x ≤ m)
def aK (m x y z : Int) : Bool := inB m x && inB m y && inB m z
def gD (x y z : Int) : Bool := decide (x = 0 ∧ y = 0 ∧ z = 0)
def ax (x y z : Int) : Bool := aK 1000000 x y z && !gD x y z
theorem gL {m x : Int} : inB m x = true ↔ -m ≤ x ∧ x ≤ m := by simp [inB]
theorem aP {m x y z : Int} : aK m x y z = true ↔ (-m ≤ x ∧ x ≤ m) ∧ (-m ≤ y ∧ y ≤ m) ∧ (-m ≤ z ∧ z ≤ m) := by
 simp [aK, gL, and_assoc]
theorem bl {x y z : Int} : ax x y z = true ↔ ((-1000000 ≤ x ∧ x ≤ 1000000) ∧ (-1000000 ≤ y ∧ y ≤ 1000000) ∧ (-1000000 ≤ z ∧ z ≤ 1000000)) ∧ ¬ (x = 0 ∧ y = 0 ∧ z = 0) := by
 unfold ax
 rw [Bool.and_eq_true, aP]
 simp only [gD, Bool.not_eq_true', decide_eq_false_iff_not]
theorem aq {n : Int} (h0 : -9223372036854775808 ≤ n) (h1 : n ≤ 9223372036854775807) : wrap64 n = n := by
 exact Go.IntWalk.wrap64_in n ⟨h0, h1⟩
theorem bJ {a b A B : Int} (h1 : -A ≤ a ∧ a ≤ A) (h3 : -B ≤ b ∧ b ≤ B) : -(A * B) ≤ a * b ∧ a * b ≤ A * B := by
 have h : (a * b).natAbs ≤ A.natAbs * B.natAbs := by
  rw [Int.natAbs_mul]; exact Nat.mul_le_mul (by omega) (by omega)
 have : ((A.natAbs * B.natAbs : Nat) : Int) = A * B := by
  rw [Int.natCast_mul, Int.natAbs_of_nonneg (by omega), Int.natAbs_of_nonneg (by omega)]
 omega
def bx (a1 a2 a3 b1 b2 b3 : Int) : Int := wrap64 (wrap64 (wrap64 (a1 * b1) + wrap64 (a2 * b2)) + wrap64 (a3 * b3))
def dot (a1 a2 a3 b1 b2 b3 : Int) : Int := a1 * b1 + a2 * b2 + a3 * b3
def crW (a2 a3 b2 b3 : Int) : Int := wrap64 (wrap64 (a2 * b3) - wrap64 (a3 * b2))
theorem sC (a1 a2 a3 b1 b2 b3 : Int) : bx a1 a2 a3 b1 b2 b3 = bx b1 b2 b3 a1 a2 a3 := by
 unfold bx; rw [Int.mul_comm a1, Int.mul_comm a2, Int.mul_comm a3]
theorem dh {a1 a2 a3 b1 b2 b3 A B : Int} (ha : aK A a1 a2 a3 = true) (hb : aK B b1 b2 b3 = true) : -(3 * (A * B)) ≤ dot a1 a2 a3 b1 b2 b3 ∧ dot a1 a2 a3 b1 b2 b3 ≤ 3 * (A * B) := by
 rw [aP] at ha hb
 have h1 := bJ ha.1 hb.1
 have h2 := bJ ha.2.1 hb.2.1
 have h3 := bJ ha.2.2 hb.2.2
 unfold dot
 omega
theorem dx {a1 a2 a3 b1 b2 b3 A B : Int} (ha : aK A a1 a2 a3 = true) (hb : aK B b1 b2 b3 = true) (h : 3 * (A * B) ≤ 9223372036854775807) : bx a1 a2 a3 b1 b2 b3 = dot a1 a2 a3 b1 b2 b3 := by
 rw [aP] at ha hb
 have h1 := bJ ha.1 hb.1
 have h2 := bJ ha.2.1 hb.2.1
 have h3 := bJ ha.2.2 hb.2.2
 unfold bx dot
 rw [aq (n := a1 * b1) (by omega) (by omega), aq (n := a2 * b2) (by omega) (by omega), aq (n := a3 * b3) (by omega) (by omega), aq (n := a1 * b1 + a2 * b2) (by omega) (by omega), aq (by omega) (by omega)]
theorem ei {a2 a3 b2 b3 A B : Int} (h2 : -A ≤ a2 ∧ a2 ≤ A) (h3 : -A ≤ a3 ∧ a3 ≤ A) (k2 : -B ≤ b2 ∧ b2 ≤ B) (k3 : -B ≤ b3 ∧ b3 ≤ B) (h : 2 * (A * B) ≤ 9223372036854775807) :
  crW a2 a3 b2 b3 = a2 * b3 - a3 * b2 ∧ -(2 * (A * B)) ≤ a2 * b3 - a3 * b2 ∧ a2 * b3 - a3 * b2 ≤ 2 * (A * B) := by
 have h1 := bJ h2 k3
 have h2 := bJ h3 k2
 unfold crW
 rw [aq (n := a2 * b3) (by omega) (by omega), aq (n := a3 * b2) (by omega) (by omega), aq (by omega) (by omega)]
 omega
def sS (a1 a2 a3 b1 b2 b3 : Int) : Int := if ax a1 a2 a3 && ax b1 b2 b3 then bx a1 a2 a3 b1 b2 b3 else 0
def crI (r : Bool) (a2 a3 b2 b3 : Int) : Int := if r then crW a2 a3 b2 b3 else 0
def rd (a1 a2 a3 b1 b2 b3 c1 c2 c3 : Int) : Int :=
 if ax a1 a2 a3 && ax b1 b2 b3 && ax c1 c2 c3 then bx (crW a2 a3 b2 b3) (crW a3 a1 b3 b1) (crW a1 a2 b1 b2) c1 c2 c3 else 0
def gI (x y z : Int) : Int := ((Int.gcd (Int.gcd x y : Int) z : Nat) : Int)
def prI (r : Bool) (g x : Int) : Int := if r then wrap64 (x.tdiv g) else 0
def dB (a1 a2 a3 b1 b2 b3 : Int) : Bool :=
 ax a1 a2 a3 && ax b1 b2 b3 && gD (crW a2 a3 b2 b3) (crW a3 a1 b3 b1) (crW a1 a2 b1 b2) && decide (0 < bx a1 a2 a3 b1 b2 b3)
theorem vZ (a b : Int) : Int.gcd b (a.tmod b) = Int.gcd a b := by
 show Nat.gcd b.natAbs (a.tmod b).natAbs = Nat.gcd a.natAbs b.natAbs
 rw [Int.natAbs_tmod, Nat.gcd_comm b.natAbs, ← Nat.gcd_rec, Nat.gcd_comm]
theorem vh (a : Int) : ((Int.gcd a 0 : Nat) : Int) = if a < 0 then -a else a := by
 rw [Int.gcd_zero_right]
 split <;> omega
theorem tE (a b : Int) (h : b ≠ 0) : (a.tmod b).natAbs < b.natAbs := by
 rw [Int.natAbs_tmod]; exact Nat.mod_lt _ (by omega)
theorem lM {a b m : Int} (ha : -m ≤ a ∧ a ≤ m) (hb : -m ≤ b ∧ b ≤ m) : 0 ≤ ((Int.gcd a b : Nat) : Int) ∧ ((Int.gcd a b : Nat) : Int) ≤ m := by
 refine ⟨by omega, ?_⟩
 by_cases h : a = 0
 ·subst h; rw [Int.gcd_zero_left]; omega
 ·have := Nat.le_of_dvd (by omega) (Nat.gcd_dvd_left a.natAbs b.natAbs)
  have e : Int.gcd a b = Nat.gcd a.natAbs b.natAbs := rfl
  omega
theorem zD (x y z : Int) : ((Int.gcd ((Int.gcd ((Int.gcd 0 x : Nat) : Int) y : Nat) : Int) z : Nat) : Int) = gI x y z := by
 unfold gI
 have : Int.gcd ((Int.gcd 0 x : Nat) : Int) y = Int.gcd x y := by
  rw [Int.gcd_zero_left]
  show Nat.gcd (x.natAbs : Int).natAbs y.natAbs = Nat.gcd x.natAbs y.natAbs
  rw [Int.natAbs_natCast]
 rw [this]
theorem BW {x y z : Int} (h : ax x y z = true) : 0 < gI x y z := by
 rw [bl] at h
 unfold gI
 have h2 : Int.gcd ((Int.gcd x y : Nat) : Int) z ≠ 0 := by
  intro e
  rw [Int.gcd_eq_zero_iff] at e
  have e1 : Int.gcd x y = 0 := by omega
  rw [Int.gcd_eq_zero_iff] at e1
  exact h.2 ⟨e1.1, e1.2, e.2⟩
 omega
theorem nD {x y z : Int} (h : ¬ (x = 0 ∧ y = 0 ∧ z = 0)) : 0 < dot x y z x y z := by
 unfold dot
 have hx : 0 ≤ x * x := by rw [← Int.natAbs_mul_self' x]; exact Int.natCast_nonneg _
 have hy : 0 ≤ y * y := by rw [← Int.natAbs_mul_self' y]; exact Int.natCast_nonneg _
 have hz : 0 ≤ z * z := by rw [← Int.natAbs_mul_self' z]; exact Int.natCast_nonneg _
 by_cases h1 : x = 0
 ·by_cases h2 : y = 0
  ·have h3 : z ≠ 0 := fun e => h ⟨h1, h2, e⟩
   have : z * z ≠ 0 := fun e => by rcases Int.mul_eq_zero.1 e with e | e <;> exact h3 e
   omega
  ·have : y * y ≠ 0 := fun e => by rcases Int.mul_eq_zero.1 e with e | e <;> exact h2 e
   omega
 ·have : x * x ≠ 0 := fun e => by rcases Int.mul_eq_zero.1 e with e | e <;> exact h1 e
  omega
def sgn (n : Int) : Int := if n < 0 then -1 else if 0 < n then 1 else 0
def gB (a b : Int) : Int := if a < b then -1 else if b < a then 1 else 0
def ssq (n : Int) : Int := if n < 0 then -n * n else n * n
def oq (n : Int) : Int := if n < 0 then wrap64 (wrap64 (-n) * n) else wrap64 (n * n)
def cz (x y z : Int) : Bool := ax x y z && aK 1800 x y z
def aL (x y z : Int) : Bool := ax x y z && aK 10 x y z
def nB (a1 a2 a3 b1 b2 b3 c1 c2 c3 d1 d2 d3 : Int) : Int :=
 if cz a1 a2 a3 && cz b1 b2 b3 && aL c1 c2 c3 && aL d1 d2 d3 then
  gB (ssq (dot a1 a2 a3 b1 b2 b3) * (dot c1 c2 c3 c1 c2 c3 * dot d1 d2 d3 d1 d2 d3)) (ssq (dot c1 c2 c3 d1 d2 d3) * (dot a1 a2 a3 a1 a2 a3 * dot b1 b2 b3 b1 b2 b3))
 else 0
theorem Bv {a1 a2 a3 b1 b2 b3 c1 c2 c3 d1 d2 d3 : Int} (ha : aK 1800 a1 a2 a3 = true) (hb : aK 1800 b1 b2 b3 = true) (hc : aK 10 c1 c2 c3 = true) (hd : aK 10 d1 d2 d3 = true) :
  wrap64 (oq (bx a1 a2 a3 b1 b2 b3) * wrap64 (bx c1 c2 c3 c1 c2 c3 * bx d1 d2 d3 d1 d2 d3)) = ssq (dot a1 a2 a3 b1 b2 b3) * (dot c1 c2 c3 c1 c2 c3 * dot d1 d2 d3 d1 d2 d3) ∧
  wrap64 (oq (bx c1 c2 c3 d1 d2 d3) * wrap64 (bx a1 a2 a3 a1 a2 a3 * bx b1 b2 b3 b1 b2 b3)) = ssq (dot c1 c2 c3 d1 d2 d3) * (dot a1 a2 a3 a1 a2 a3 * dot b1 b2 b3 b1 b2 b3) := by
 rw [dx ha hb (by omega), dx hc hc (by omega), dx hd hd (by omega), dx hc hd (by omega), dx ha ha (by omega), dx hb hb (by omega)]
 have x1 := dh ha hb
 have x2 := dh hc hc
 have x3 := dh hd hd
 have x4 := dh hc hd
 have x5 := dh ha ha
 have x6 := dh hb hb
 generalize dot a1 a2 a3 b1 b2 b3 = p1 at *
 generalize dot c1 c2 c3 c1 c2 c3 = p2 at *
 generalize dot d1 d2 d3 d1 d2 d3 = p3 at *
 generalize dot c1 c2 c3 d1 d2 d3 = p4 at *
 generalize dot a1 a2 a3 a1 a2 a3 = p5 at *
 generalize dot b1 b2 b3 b1 b2 b3 = p6 at *
 have key : ∀ (p q r P Q : Int), (-P ≤ p ∧ p ≤ P) → (-Q ≤ q ∧ q ≤ Q) → (-Q ≤ r ∧ r ≤ Q) → P * P ≤ 9223372036854775807 → P ≤ 9223372036854775807 → Q * Q ≤ 9223372036854775807 → (P * P) * (Q * Q) ≤ 9223372036854775807 →
   wrap64 (oq p * wrap64 (q * r)) = ssq p * (q * r) := by
  intro p q r P Q h1 h2 h3 k1 k2 k3 k4
  have m1 := bJ h1 h1
  have m2 := bJ h2 h3
  have e : oq p = ssq p := by
   unfold oq ssq
   split
   ·rw [aq (n := -p) (by omega) (by omega)]
    have : -p * p = -(p * p) := by grind
    rw [aq (by omega) (by omega)]
   ·rw [aq (by omega) (by omega)]
  have b : -(P * P) ≤ ssq p ∧ ssq p ≤ P * P := by
   unfold ssq
   have : -p * p = -(p * p) := by grind
   split <;> omega
  have m3 := bJ b m2
  rw [e, aq (n := q * r) (by omega) (by omega), aq (by omega) (by omega)]
 exact ⟨key p1 p2 p3 9720000 300 (by omega) (by omega) (by omega) (by omega) (by omega) (by omega) (by omega), key p4 p5 p6 300 9720000 (by omega) (by omega) (by omega) (by omega) (by omega) (by omega) (by omega)⟩
theorem tJ {a b : Int} (h : a < b) : gB a b = -1 := by simp [gB, h]
theorem tu {a b : Int} (h : b < a) : gB a b = 1 := by unfold gB; rw [if_neg (by omega), if_pos h]
theorem kE {x : Int} (h : x < 0) : ssq x = -(x * x) := by unfold ssq; rw [if_pos h]; grind
theorem kP {x : Int} (h : 0 ≤ x) : ssq x = x * x := by unfold ssq; rw [if_neg (by omega)]
theorem gG {x : Int} (h : x < 0) : sgn x = -1 := by simp [sgn, h]
theorem gH {x : Int} (h : 0 < x) : sgn x = 1 := by unfold sgn; rw [if_neg (by omega), if_pos h]
theorem mP : sgn 0 = 0 := by simp [sgn]
def qm (x y p q : Int) : Int :=
 if sgn x ≠ sgn y then sgn (wrap64 (sgn x - sgn y)) else if p < q then wrap64 (-sgn x) else if q < p then sgn x else 0
theorem Ci {x y L M : Int} (hL : 0 < L) (hM : 0 < M) : qm x y (x * x * L) (y * y * M) = gB (ssq x * L) (ssq y * M) := by
 have sq : ∀ {x L : Int}, x ≠ 0 → 0 < L → 0 < x * x * L := fun {x L} h hL => by
  have h0 : 0 ≤ x * x := by rw [← Int.natAbs_mul_self' x]; exact Int.natCast_nonneg _
  have : x * x ≠ 0 := fun e => by rcases Int.mul_eq_zero.1 e with e | e <;> exact h e
  exact Int.mul_pos (by omega) hL
 have xL : x ≠ 0 → 0 < x * x * L := fun h => sq h hL
 have yM : y ≠ 0 → 0 < y * y * M := fun h => sq h hM
 have nx : -(x * x) * L = -(x * x * L) := by grind
 have ny : -(y * y) * M = -(y * y * M) := by grind
 have w1 : wrap64 (-1) = -1 := aq (by omega) (by omega)
 have w2 : wrap64 (-2) = -2 := aq (by omega) (by omega)
 have w3 : wrap64 1 = 1 := aq (by omega) (by omega)
 have w4 : wrap64 2 = 2 := aq (by omega) (by omega)
 have z0 : ssq 0 = 0 := by simp [ssq]
 unfold qm
 rcases Int.lt_trichotomy x 0 with hx0 | hx0 | hx0 <;> rcases Int.lt_trichotomy y 0 with hy0 | hy0 | hy0
 ·rw [gG hx0, gG hy0, kE hx0, kE hy0, nx, ny, if_neg (by simp), show (-(-1) : Int) = 1 from rfl, w3]
  unfold gB
  split
  ·rw [if_neg (by omega), if_pos (by omega)]
  ·split
   ·rw [if_pos (by omega)]
   ·rw [if_neg (by omega), if_neg (by omega)]
 ·subst hy0
  have := xL (by omega)
  rw [gG hx0, mP, kE hx0, z0, nx, tJ (by omega), if_pos (by simp), show (-1 - 0 : Int) = -1 from rfl, w1, gG (by omega)]
 ·have := xL (by omega)
  have := yM (by omega)
  rw [gG hx0, gH hy0, kE hx0, kP (by omega), nx, tJ (by omega), if_pos (by simp), show (-1 - 1 : Int) = -2 from rfl, w2, gG (by omega)]
 ·subst hx0
  have := yM (by omega)
  rw [gG hy0, mP, kE hy0, z0, ny, tu (by omega), if_pos (by simp), show (0 - -1 : Int) = 1 from rfl, w3, gH (by omega)]
 ·subst hx0; subst hy0
  simp [gB, ssq, sgn]
 ·subst hx0
  have := yM (by omega)
  rw [gH hy0, mP, kP (x := y) (by omega), z0, tJ (by omega), if_pos (by simp), show (0 - 1 : Int) = -1 from rfl, w1, gG (by omega)]
 ·have := xL (by omega)
  have := yM (by omega)
  rw [gH hx0, gG hy0, kE hy0, kP (by omega), ny, tu (by omega), if_pos (by simp), show (1 - -1 : Int) = 2 from rfl, w4, gH (by omega)]
 ·subst hy0
  have := xL (by omega)
  rw [gH hx0, mP, kP (x := x) (by omega), z0, tu (by omega), if_pos (by simp), show (1 - 0 : Int) = 1 from rfl, w3, gH (by omega)]
 ·rw [gH hx0, gH hy0, kP (x := x) (by omega), kP (x := y) (by omega), if_neg (by simp), w1]
  rfl
theorem an (w : World) (a : Obj) : Below w.heap.size w (w.alloc a) := (Below.refl _ _).alloc (Nat.le_refl _) _
theorem aO (w : World) (a b : Obj) : Below w.heap.size w ((w.alloc a).alloc b) := (an w a).alloc (by simp) _
theorem dW (w : World) (a b c : Obj) : Below w.heap.size w (((w.alloc a).alloc b).alloc c) := (aO w a b).alloc (by simp; omega) _
theorem ak {w w1 w2 : World} (h : Below w.heap.size w w1) (h2 : Below w1.heap.size w1 w2) : Below w.heap.size w w2 := h.trans (h2.mono h.size)
theorem rZ (x y z : Int) (w : World) :
  Calls Tryz.prog 154 #[.agg #[.int .i64 x, .int .i64 y, .int .i64 z]] w fun e w' => e = .returned (.agg #[.int .i64 x, .int .i64 y, .int .i64 z]) ∧ Below w.heap.size w w' := by
 go_enter Tryz.func154, Tryz.ntmps154
 go_wp2
 exact bodyPost_ret (v := .agg #[.int .i64 x, .int .i64 y, .int .i64 z]) (by simp [results, Tryz.results154, go_sem]) rfl ⟨rfl, aO _ _ _⟩
theorem nC (a1 a2 a3 b1 b2 b3 : Int) (w : World) :
  Calls Tryz.prog 182 #[.agg #[.int .i64 a1, .int .i64 a2, .int .i64 a3], .agg #[.int .i64 b1, .int .i64 b2, .int .i64 b3]] w fun e w' => e = .returned (.int .i64 (bx a1 a2 a3 b1 b2 b3)) ∧ Below w.heap.size w w' := by
 go_enter Tryz.func182, Tryz.ntmps182
 go_wp2
 go_ret
 exact ⟨rfl, aO _ _ _⟩
theorem fj (a1 a2 a3 b1 b2 b3 : Int) (w : World) :
  Calls Tryz.prog 58 #[.agg #[.int .i64 a1, .int .i64 a2, .int .i64 a3], .agg #[.int .i64 b1, .int .i64 b2, .int .i64 b3]] w fun e w' => e = .returned (.int .i64 (bx a1 a2 a3 b1 b2 b3)) ∧ Below w.heap.size w w' := by
 go_enter Tryz.func58, Tryz.ntmps58
 go_wp2
 go_ret
 exact ⟨rfl, aO _ _ _⟩
theorem dE (n lo hi : Int) (w : World) :
  Calls Tryz.prog 17 #[.int .i64 n, .int .i64 lo, .int .i64 hi] w fun e w' => e = .returned (.bool (decide (lo ≤ n) && decide (n ≤ hi))) ∧ w' = w := by
 by_cases h : lo ≤ n
 ·go_enter Tryz.func17, Tryz.ntmps17
  go_wp2
  go_ret
  exact ⟨by simp [h], rfl⟩
 ·go_enter Tryz.func17, Tryz.ntmps17
  go_wp2
  go_ret
  exact ⟨by simp; omega, rfl⟩
end
section
open Go.RowKit Go.Extern.Stop Go.Stop Go.Extern
theorem Ca (v : Value) (w : World) : (Extern.ReflectliteType.typeOf #[.iface 258 v]).run Tryz.prog w = .ok (.iface 207 (.agg #[.pointer (some ⟨7, 258, none⟩)])) w := by kernel_rfl
theorem tN (w : World) : (callFunc 223 #[.agg #[.pointer (some ⟨7, 258, none⟩)]]).run Tryz.prog w = .ok (Next.value (.bool true)) w :=
 (@run_callFunc_extern Tryz.prog 223 _ (Extern.ReflectliteType.method fun t => do Extern.Rtype.noPackHeld "Comparable" t; pure (.bool (← typeInfo t).comparable)) Tryz.func223 (by kernel_rfl) (by kernel_rfl) (by kernel_rfl) (by kernel_rfl) _ w).trans (by kernel_rfl)
theorem lu (v : Value) (w : World) : (Go.method 393 207 v "Comparable").run Tryz.prog w = .ok (223, v) w := by kernel_rfl
theorem Ej : (Tryz.prog.info? 258).map (·.comparable) = some true := by kernel_rfl
theorem DV : (Tryz.prog.info? 282).map (·.size) = some 1 := by kernel_rfl
theorem EB (v : Value) (xT : TypeId) (w : World) : (Instr.typeAssert (.iface 194 v) xT 209 true).run Tryz.prog w = .ok (.tuple #[.nilIface, .bool false]) w := run_typeAssert_lacksB Tryz.underlying209 (by kernel_rfl) (by kernel_rfl) v xT w
theorem wI (v : Value) (xT : TypeId) (w : World) : (Instr.typeAssert (.iface 194 v) xT 212 true).run Tryz.prog w = .ok (.tuple #[.iface 194 v, .bool true]) w := run_typeAssert_hasB Tryz.underlying212 (by kernel_rfl) v xT w
theorem sL (v : Value) (w : World) : (Go.method 393 194 v "Unwrap").run Tryz.prog w = .ok (219, v) w := by kernel_rfl
def bu (b : Addr) (w : World) : Prop := w.cell? ⟨1, 0, none⟩ = some (.iface 258 (.pointer (some b)))
theorem bu.lt {b : Addr} {w : World} (h : bu b w) : 1 < w.heap.size := World.block_lt_of_cell? w _ h
theorem bu.kept {b : Addr} {w w' : World} (h : bu b w) (hB : Below w.heap.size w w') : bu b w' := by
 unfold bu
 rw [hB.cell (p := ⟨1, 0, none⟩) h.lt]
 exact h
theorem Er (b : Addr) (w : World) :
  Calls Tryz.prog 108 #[.nilIface, .iface 258 (.pointer (some b))] w fun e w' => e = .returned (.bool false) ∧ w' = w := by
 have hn := run_eql_iface_nil_left (P := Tryz.prog) w 258 (.pointer (some b)) Tryz.underlying149
 go_enter Tryz.func108, Tryz.ntmps108
 go_wp2
 go_ret
 exact ⟨rfl, rfl⟩
theorem wS (why : ByteArray) (b : Addr) (w : World) (h : bu b w) :
  Calls Tryz.prog 219 #[.agg #[.string why]] w fun e w' => e = .returned (.iface 258 (.pointer (some b))) ∧ Below w.heap.size w w' := by
 have h' : bu b (w.alloc (.cells #[.string why] 194)) := h.kept (an _ _)
 unfold bu at h'
 go_enter Tryz.func219, Tryz.ntmps219
 go_wp2
 go_ret
 exact ⟨rfl, an _ _⟩
theorem AH (why : ByteArray) (b : Addr) (w : World) (h : bu b w) :
  Calls Tryz.prog 108 #[.iface 194 (.agg #[.string why]), .iface 258 (.pointer (some b))] w fun e w' => e = .returned (.bool true) ∧ Below w.heap.size w w' := by
 obtain ⟨i, hi, hcmp⟩ := Option.map_eq_some_iff.1 Ej
 obtain ⟨j, hj, hjs⟩ := Option.map_eq_some_iff.1 DV
 have h8 := @run_callFunc_extern Tryz.prog 142 _ Extern.ReflectliteType.typeOf Tryz.func142 (by kernel_rfl) (by kernel_rfl) (by kernel_rfl) (by kernel_rfl)
 have tT := Ca
 have cT := tN
 have mR := lu
 have nW := EB
 have uW := wI
 have mU := sL
 have heq := fun w => run_eql_iface_ptr_same (P := Tryz.prog) w b Tryz.underlying149 Tryz.underlying258 hi hcmp hj
 have hty := fun w => run_eql_iface_types (P := Tryz.prog) 194 258 (.agg #[.string why]) (.pointer (some b)) Tryz.underlying149 (by decide) w
 have HE := yz h
 clear h
 go_enter Tryz.func108, Tryz.ntmps108
 go_wp2
 refine wp_loop_rounds 2 ?_
 rw [rounds_succ]
 go_wp2_with (go_at_call 219; refine (wS why b _ (yy HE)).mono ?_; rintro e w1 ⟨rfl, hx⟩)
 rw [rounds_succ]
 go_wp2
 go_ret
 exact ⟨rfl, hx⟩
end
section
open Go.RowKit
abbrev St := Int × Int × Int × Int
def stC (s : St) : List Value := [.int .i64 s.1, .int .i64 s.2.1, .int .i64 s.2.2.1, .int .i64 s.2.2.2]
def stA (L : List St) (i : Nat) : St := L.getD i (0, 0, 0, 0)
def idB (n : Int) : Bool := decide (1 ≤ n) && decide (n ≤ 9999)
def upB (L : List St) (i : Nat) : Bool := decide (i = 0) || decide ((stA L (i - 1)).1 < (stA L i).1)
def eqI (a1 a2 a3 b1 b2 b3 : Int) : Bool := decide (a1 = b1 ∧ a2 = b2 ∧ a3 = b3)
def eV (x y z : Int) : Bool := eqI x y z (prI (ax x y z) (gI x y z) x) (prI (ax x y z) (gI x y z) y) (prI (ax x y z) (gI x y z) z)
def nY (p q : St) : Bool := dB p.2.1 p.2.2.1 p.2.2.2 q.2.1 q.2.2.1 q.2.2.2
def nt (L : List St) (s : St) (k : Nat) : Prop := ∀ j, j < k → nY s (stA L j) = false
def ey (L : List St) (s : St) (n : Nat) : Bool := (List.range n).any fun j => nY s (stA L j)
def em (L : List St) (i : Nat) : Bool :=
 idB (stA L i).1 && upB L i && (aL (stA L i).2.1 (stA L i).2.2.1 (stA L i).2.2.2 && eV (stA L i).2.1 (stA L i).2.2.1 (stA L i).2.2.2) && !ey L (stA L i) i
def un (L : List St) (k : Nat) : Prop := ∀ j, j < k → em L j = true
def aV (L : List St) : Bool := decide (L.length ≤ 12) && (List.range L.length).all (em L)
theorem pv {L : List St} {s : St} {n : Nat} (h : nt L s n) : ey L s n = false := by
 unfold ey
 rw [List.any_eq_false]
 intro j hj
 rw [h j (List.mem_range.1 hj)]
 simp
theorem rP {L : List St} {s : St} {n j : Nat} (hj : j < n) (h : nY s (stA L j) = true) : ey L s n = true := by
 unfold ey
 rw [List.any_eq_true]
 exact ⟨j, List.mem_range.2 hj, h⟩
theorem rC {L : List St} {s : St} {k : Nat} (h : nt L s k) (h1 : nY s (stA L k) = false) : nt L s (k + 1) := by
 intro j hj
 by_cases e : j = k
 ·rw [e]; exact h1
 ·exact h j (by omega)
theorem sN {L : List St} {k : Nat} (h : un L k) (h1 : em L k = true) : un L (k + 1) := by
 intro j hj
 by_cases e : j = k
 ·rw [e]; exact h1
 ·exact h j (by omega)
theorem tG {L : List St} (hl : L.length ≤ 12) (h : un L L.length) : aV L = true := by
 unfold aV
 rw [Bool.and_eq_true, List.all_eq_true]
 exact ⟨by simpa using hl, fun j hj => h j (List.mem_range.1 hj)⟩
theorem iK {L : List St} {k : Nat} (hk : k < L.length) (h : em L k = false) : aV L = false := by
 unfold aV
 have : (List.range L.length).all (em L) = false := by
  rw [List.all_eq_false]
  exact ⟨k, List.mem_range.2 hk, by rw [h]; simp⟩
 rw [this, Bool.and_false]
theorem AY {L : List St} (hl : 12 < L.length) : aV L = false := by
 unfold aV
 rw [show decide (L.length ≤ 12) = false by simp; omega, Bool.false_and]
theorem bQ {L : List St} (h : aV L = true) : L.length ≤ 12 ∧ un L L.length := by
 unfold aV at h
 rw [Bool.and_eq_true, List.all_eq_true] at h
 exact ⟨by simpa using h.1, fun j hj => h.2 j (List.mem_range.2 hj)⟩
theorem fa {L : List St} {i : Nat} (h : em L i = true) : aL (stA L i).2.1 (stA L i).2.2.1 (stA L i).2.2.2 = true := by
 unfold em at h
 simp only [Bool.and_eq_true] at h
 exact h.1.2.1
theorem bz {x y z : Int} (h : aL x y z = true) : ax x y z = true ∧ aK 10 x y z = true := by simpa [aL] using h
theorem xc {a1 a2 a3 b1 b2 b3 : Int} (ha : aL a1 a2 a3 = true) (hb : aL b1 b2 b3 = true) : dB a1 a2 a3 b1 b2 b3 = dB b1 b2 b3 a1 a2 a3 := by
 obtain ⟨ra, wa⟩ := bz ha
 obtain ⟨rb, wb⟩ := bz hb
 obtain ⟨x1, x2, x3⟩ := aP.1 wa
 obtain ⟨y1, y2, y3⟩ := aP.1 wb
 have e1 := ei x2 x3 y2 y3 (by omega)
 have e2 := ei x3 x1 y3 y1 (by omega)
 have e3 := ei x1 x2 y1 y2 (by omega)
 have f1 := ei y2 y3 x2 x3 (by omega)
 have f2 := ei y3 y1 x3 x1 (by omega)
 have f3 := ei y1 y2 x1 x2 (by omega)
 unfold dB
 rw [ra, rb, e1.1, e2.1, e3.1, f1.1, f2.1, f3.1, sC]
 congr 2
 unfold gD
 rw [Int.mul_comm b2, Int.mul_comm b3 a2, Int.mul_comm b3 a1, Int.mul_comm b1 a3, Int.mul_comm b1 a2, Int.mul_comm b2 a1]
 congr 1
 apply propext
 constructor <;> rintro ⟨h1, h2, h3⟩ <;> exact ⟨by omega, by omega, by omega⟩
theorem Dl {a1 a2 a3 b1 b2 b3 : Int} (ha : aL a1 a2 a3 = true) (hb : aL b1 b2 b3 = true) :
  (eqI (crW a2 a3 b2 b3) (crW a3 a1 b3 b1) (crW a1 a2 b1 b2) 0 0 0 && decide (0 < bx a1 a2 a3 b1 b2 b3)) = dB a1 a2 a3 b1 b2 b3 := by
 unfold dB
 rw [(bz ha).1, (bz hb).1]
 rfl
theorem mz {m x : Int} (h : ¬ (-m ≤ x ∧ x ≤ m)) : inB m x = false := by simpa [inB] using h
theorem lJ (m x y z : Int) (w : World) (hm0 : 0 ≤ m) (hm : m ≤ 1000000) :
  Calls Tryz.prog 164 #[.agg #[.int .i64 x, .int .i64 y, .int .i64 z], .int .i64 m] w fun e w' => e = .returned (.bool (aK m x y z)) ∧ Below w.heap.size w w' := by
 have i0 : ∀ w : World, (Instr.index 203 (.agg #[.int .i64 x, .int .i64 y, .int .i64 z]) (.int .i64 0)).run Tryz.prog w = .ok (.int .i64 x) w := fun _ => by kernel_rfl
 have i1 : ∀ w : World, (Instr.index 203 (.agg #[.int .i64 x, .int .i64 y, .int .i64 z]) (.int .i64 1)).run Tryz.prog w = .ok (.int .i64 y) w := fun _ => by kernel_rfl
 have i2 : ∀ w : World, (Instr.index 203 (.agg #[.int .i64 x, .int .i64 y, .int .i64 z]) (.int .i64 2)).run Tryz.prog w = .ok (.int .i64 z) w := fun _ => by kernel_rfl
 have hwr : wrap64 (-m) = -m := aq (by omega) (by omega)
 go_enter Tryz.func164, Tryz.ntmps164
 go_wp2_with fail
 refine (rZ x y z _).mono ?_
 rintro e w1 ⟨rfl, hB1⟩
 have hB : Below w.heap.size w w1 := ak (an _ _) hB1
 clear hB1
 go_wp2_with fail
 go_loop [9] (fun i => ∃ k : Nat, k ≤ 3 ∧ i = .int .i64 k ∧ Hid (0 < k → inB m x = true) ∧ Hid (1 < k → inB m y = true) ∧ Hid (2 < k → inB m z = true)) (fun i => 3 - (intOf i).toNat)
 case atStart => exact ⟨0, Nat.zero_le _, rfl, yz (by omega), yz (by omega), yz (by omega)⟩
 case round =>
  obtain ⟨k, hk, rfl, hx, hy, hz⟩ := hrel
  have hk4 : k = 0 ∨ k = 1 ∨ k = 2 ∨ k = 3 := by omega
  rcases hk4 with rfl | rfl | rfl | rfl
  ·by_cases q1 : -m ≤ x
   ·by_cases q2 : x ≤ m
    ·have HI := yz (gL.2 ⟨q1, q2⟩)
     go_wp2
     go_round
     case rel => exact ⟨1, by omega, rfl, yz (fun _ => yy HI), yz (by omega), yz (by omega)⟩
     case measure => simp [intOf]
    ·have HO := yz (mz (m := m) (x := x) (fun h => q2 h.2))
     go_wp2
     go_ret
     exact ⟨by simp [aK, yy HO], hB⟩
   ·have HO := yz (mz (m := m) (x := x) (fun h => q1 h.1))
    go_wp2
    go_ret
    exact ⟨by simp [aK, yy HO], hB⟩
  ·by_cases q1 : -m ≤ y
   ·by_cases q2 : y ≤ m
    ·have HI := yz (gL.2 ⟨q1, q2⟩)
     go_wp2
     go_round
     case rel => exact ⟨2, by omega, rfl, yz (fun _ => yy hx (by omega)), yz (fun _ => yy HI), yz (by omega)⟩
     case measure => simp [intOf]
    ·have HO := yz (mz (m := m) (x := y) (fun h => q2 h.2))
     go_wp2
     go_ret
     exact ⟨by simp [aK, yy HO], hB⟩
   ·have HO := yz (mz (m := m) (x := y) (fun h => q1 h.1))
    go_wp2
    go_ret
    exact ⟨by simp [aK, yy HO], hB⟩
  ·by_cases q1 : -m ≤ z
   ·by_cases q2 : z ≤ m
    ·have HI := yz (gL.2 ⟨q1, q2⟩)
     go_wp2
     go_round
     case rel => exact ⟨3, by omega, rfl, yz (fun _ => yy hx (by omega)), yz (fun _ => yy hy (by omega)), yz (fun _ => yy HI)⟩
     case measure => simp [intOf]
    ·have HO := yz (mz (m := m) (x := z) (fun h => q2 h.2))
     go_wp2
     go_ret
     exact ⟨by simp [aK, yy HO], hB⟩
   ·have HO := yz (mz (m := m) (x := z) (fun h => q1 h.1))
    go_wp2
    go_ret
    exact ⟨by simp [aK, yy HO], hB⟩
  ·go_wp2
   go_ret
   exact ⟨by simp [aK, yy hx (by omega), yy hy (by omega), yy hz (by omega)], hB⟩
def eqB (a1 a2 a3 b1 b2 b3 : Int) : Bool := decide (a1 = b1 ∧ a2 = b2 ∧ a3 = b3)
theorem rq (a1 a2 a3 b1 b2 b3 : Int) (w : World) : (Op.equalIn 10000 58 (.agg #[.int .i64 a1, .int .i64 a2, .int .i64 a3]) (.agg #[.int .i64 b1, .int .i64 b2, .int .i64 b3])).run Tryz.prog w = .ok (eqB a1 a2 a3 b1 b2 b3) w := by
 have h := run_equalIn_struct (P := Tryz.prog) w 9999 58 #[.int .i64 a1, .int .i64 a2, .int .i64 a3] #[.int .i64 b1, .int .i64 b2, .int .i64 b3] (by kernel_rfl) (by kernel_rfl)
 have hf : (Tryz.prog.fieldsOf 58).toList = (Tryz.prog.fieldsOf 58).toList := rfl
 refine h.trans ?_
 by_cases h1 : a1 = b1
 ·by_cases h2 : a2 = b2
  ·by_cases h3 : a3 = b3
   ·simp [go_sem, eqB, h1, h2, h3]
   ·simp [go_sem, eqB, h1, h2, h3]
  ·simp [go_sem, eqB, h1, h2]
 ·simp [go_sem, eqB, h1]
theorem kS (a1 a2 a3 b1 b2 b3 : Int) (w : World) : (binOp .neq 58 (.agg #[.int .i64 a1, .int .i64 a2, .int .i64 a3]) (.agg #[.int .i64 b1, .int .i64 b2, .int .i64 b3])).run Tryz.prog w = .ok (.bool (!eqB a1 a2 a3 b1 b2 b3)) w := by
 rw [run_neq_struct, rq]; rfl
theorem uf (a1 a2 a3 b1 b2 b3 : Int) (w : World) : (binOp .eql 58 (.agg #[.int .i64 a1, .int .i64 a2, .int .i64 a3]) (.agg #[.int .i64 b1, .int .i64 b2, .int .i64 b3])).run Tryz.prog w = .ok (.bool (eqB a1 a2 a3 b1 b2 b3)) w := by
 rw [run_eql_struct, rq]; rfl
theorem bZ (x y z : Int) (w : World) :
  Calls Tryz.prog 153 #[.agg #[.int .i64 x, .int .i64 y, .int .i64 z]] w fun e w' => e = .returned (.bool (ax x y z)) ∧ Below w.heap.size w w' := by
 have hn := fun w => kS x y z 0 0 0 w
 cases hz : eqB x y z 0 0 0
 ·rw [hz] at hn
  have HR : Hid (ax x y z = aK 1000000 x y z) := yz (by unfold ax; rw [show gD x y z = false from hz]; simp)
  go_enter Tryz.func153, Tryz.ntmps153
  go_wp2_with fail
  refine (lJ 1000000 x y z _ (by omega) (by omega)).mono ?_
  rintro e w1 ⟨rfl, hB1⟩
  have hB : Below w.heap.size w w1 := ak (an _ _) hB1
  clear hB1
  go_wp2_with fail
  go_ret
  exact ⟨by rw [yy HR]; rfl, hB⟩
 ·rw [hz] at hn
  have HR : Hid (ax x y z = false) := yz (by unfold ax; rw [show gD x y z = true from hz]; simp)
  go_enter Tryz.func153, Tryz.ntmps153
  go_wp2_with fail
  go_ret
  exact ⟨by rw [yy HR]; rfl, an _ _⟩
theorem isB (m x : Int) : (decide (-m ≤ x) && decide (x ≤ m)) = inB m x := by unfold inB; rw [Bool.decide_and]
theorem gn (m x y z : Int) (w : World) (hm0 : 0 ≤ m) (hm : m ≤ 1000000) :
  Calls Tryz.prog 33 #[.agg #[.int .i64 x, .int .i64 y, .int .i64 z], .int .i64 m] w fun e w' => e = .returned (.bool (aK m x y z)) ∧ Below w.heap.size w w' := by
 have hwr : wrap64 (-m) = -m := aq (by omega) (by omega)
 go_enter Tryz.func33, Tryz.ntmps33
 go_wp2_with fail
 refine (dE x (-m) m _).mono ?_
 rintro e w1 ⟨rfl, rfl⟩
 rw [isB]
 cases hx : inB m x
 ·go_wp2_with fail
  go_ret
  exact ⟨by simp [aK, hx], an _ _⟩
 ·go_wp2_with fail
  refine (dE y (-m) m _).mono ?_
  rintro e w1 ⟨rfl, rfl⟩
  rw [isB]
  cases hy : inB m y
  ·go_wp2_with fail
   go_ret
   exact ⟨by simp [aK, hy], an _ _⟩
  ·go_wp2_with fail
   refine (dE z (-m) m _).mono ?_
   rintro e w1 ⟨rfl, rfl⟩
   rw [isB]
   go_wp2_with fail
   go_ret
   exact ⟨by simp [aK, hx, hy], an _ _⟩
theorem iN (x y z : Int) (w : World) :
  Calls Tryz.prog 32 #[.agg #[.int .i64 x, .int .i64 y, .int .i64 z]] w fun e w' => e = .returned (.bool (ax x y z)) ∧ Below w.heap.size w w' := by
 have hn := fun w => kS x y z 0 0 0 w
 go_enter Tryz.func32, Tryz.ntmps32
 go_wp2_with fail
 refine (gn 1000000 x y z _ (by omega) (by omega)).mono ?_
 rintro e w1 ⟨rfl, hB1⟩
 have hB : Below w.heap.size w w1 := ak (an _ _) hB1
 have hc : ∀ i : Nat, w1.cell? ⟨w.heap.size, i, none⟩ = _ := fun i => hB1.cell (p := ⟨w.heap.size, i, none⟩) (by simp)
 have c0 := hc 0
 have c1 := hc 1
 have c2 := hc 2
 simp at c0 c1 c2
 clear hB1 hc
 cases hx : aK 1000000 x y z
 ·go_wp2_with fail
  go_ret
  exact ⟨by simp [ax, hx], hB⟩
 ·go_wp2_with fail
  go_ret
  exact ⟨by simp [ax, hx]; rfl, hB⟩
def aG (w : World) (b : Nat) (x y z : Int) : Prop := w.cell? ⟨b, 0, none⟩ = some (.int .i64 x) ∧ w.cell? ⟨b, 1, none⟩ = some (.int .i64 y) ∧ w.cell? ⟨b, 2, none⟩ = some (.int .i64 z)
def eS (w : World) (b : Nat) : Prop := w.frozen? ⟨b, 0, none⟩ = false ∧ w.frozen? ⟨b, 1, none⟩ = false ∧ w.frozen? ⟨b, 2, none⟩ = false
theorem aG.kept {w w' : World} {b : Nat} {x y z : Int} (h : aG w b x y z) (hb : b < w.heap.size) (hB : Below w.heap.size w w') : aG w' b x y z := by
 obtain ⟨h0, h1, h2⟩ := h
 exact ⟨by rw [hB.cell (p := ⟨b, 0, none⟩) hb]; exact h0, by rw [hB.cell (p := ⟨b, 1, none⟩) hb]; exact h1, by rw [hB.cell (p := ⟨b, 2, none⟩) hb]; exact h2⟩
theorem eS.kept {w w' : World} {b : Nat} (h : eS w b) (hb : b < w.heap.size) (hB : Below w.heap.size w w') : eS w' b := by
 obtain ⟨h0, h1, h2⟩ := h
 exact ⟨by rw [hB.frozen (p := ⟨b, 0, none⟩) hb]; exact h0, by rw [hB.frozen (p := ⟨b, 1, none⟩) hb]; exact h1, by rw [hB.frozen (p := ⟨b, 2, none⟩) hb]; exact h2⟩
theorem aF (w : World) (x y z : Int) (t : TypeId) : aG (w.alloc (.cells #[.int .i64 x, .int .i64 y, .int .i64 z] t)) w.heap.size x y z := by
 refine ⟨?_, ?_, ?_⟩ <;> simp
theorem eC (w : World) (x y z : Int) (t : TypeId) : eS (w.alloc (.cells #[.int .i64 x, .int .i64 y, .int .i64 z] t)) w.heap.size := by
 refine ⟨?_, ?_, ?_⟩ <;> simp
theorem aG.alloc {w : World} {b : Nat} {x y z : Int} (h : aG w b x y z) (hb : b < w.heap.size) (o : Obj) : aG (w.alloc o) b x y z := h.kept hb (an _ _)
theorem bI {w w1 : World} {b : Nat} (h : Below w.heap.size w w1) (hb : w.heap.size ≤ b) (x y z : Value) : Below w.heap.size w (((w1.setCell ⟨b, 0, none⟩ x).setCell ⟨b, 1, none⟩ y).setCell ⟨b, 2, none⟩ z) := ((h.setCell hb _).setCell hb _).setCell hb _
theorem Bb (w : World) (a b c d : Obj) : Below w.heap.size w ((((w.alloc a).alloc b).alloc c).alloc d) := (dW w a b c).alloc (by simp; omega) _
theorem sI (a1 a2 a3 b1 b2 b3 : Int) (w : World) :
  Calls Tryz.prog 179 #[.agg #[.int .i64 a1, .int .i64 a2, .int .i64 a3], .agg #[.int .i64 b1, .int .i64 b2, .int .i64 b3]] w fun e w' => e = .returned (.int .i64 (sS a1 a2 a3 b1 b2 b3)) ∧ Below w.heap.size w w' := by
 go_enter Tryz.func179, Tryz.ntmps179
 go_wp2_with fail
 refine (bZ a1 a2 a3 _).mono ?_
 rintro e w1 ⟨rfl, hB1⟩
 have hB : Below w.heap.size w w1 := ak (aO _ _ _) hB1
 have hs : w.heap.size + 2 ≤ w1.heap.size := by have := hB1.size; simpa [Nat.add_assoc] using this
 have va : aG w1 w.heap.size a1 a2 a3 := ((by simpa using aF w a1 a2 a3 _ : aG _ w.heap.size a1 a2 a3).alloc (by simp) _).kept (by simp; omega) hB1
 have vb : aG w1 (w.heap.size + 1) b1 b2 b3 := (by simpa using aF (w.alloc _) b1 b2 b3 _ : aG _ (w.heap.size + 1) b1 b2 b3).kept (by simp) hB1
 clear hB1
 have hva := va
 obtain ⟨ca0, ca1, ca2⟩ := va
 have hvb := vb
 obtain ⟨cb0, cb1, cb2⟩ := vb
 cases ha : ax a1 a2 a3
 ·go_wp2_with fail
  go_ret
  exact ⟨by simp [sS, ha], hB⟩
 ·go_wp2_with fail
  refine (bZ b1 b2 b3 _).mono ?_
  rintro e w2 ⟨rfl, hB2⟩
  have va := hva.kept (by omega) hB2
  have vb := hvb.kept (by omega) hB2
  replace hs : w.heap.size + 2 ≤ w2.heap.size := by have := hB2.size; omega
  replace hB : Below w.heap.size w w2 := ak hB hB2
  clear hva ca0 ca1 ca2 hvb cb0 cb1 cb2
  clear hB2
  have hva := va
  obtain ⟨ca0, ca1, ca2⟩ := va
  have hvb := vb
  obtain ⟨cb0, cb1, cb2⟩ := vb
  cases hb : ax b1 b2 b3
  ·go_wp2_with fail
   go_ret
   exact ⟨by simp [sS, hb], hB⟩
  ·go_wp2_with fail
   refine (nC a1 a2 a3 b1 b2 b3 _).mono ?_
   rintro e w3 ⟨rfl, hB3⟩
   go_wp2_with fail
   go_ret
   exact ⟨by simp [sS, ha, hb], ak hB hB3⟩
theorem rF (a1 a2 a3 b1 b2 b3 : Int) (w : World) :
  Calls Tryz.prog 178 #[.agg #[.int .i64 a1, .int .i64 a2, .int .i64 a3], .agg #[.int .i64 b1, .int .i64 b2, .int .i64 b3]] w fun e w' => e = .returned (.agg #[.int .i64 (crI (ax a1 a2 a3 && ax b1 b2 b3) a2 a3 b2 b3), .int .i64 (crI (ax a1 a2 a3 && ax b1 b2 b3) a3 a1 b3 b1), .int .i64 (crI (ax a1 a2 a3 && ax b1 b2 b3) a1 a2 b1 b2)]) ∧ Below w.heap.size w w' := by
 go_enter Tryz.func178, Tryz.ntmps178
 go_wp2_with fail
 refine (bZ a1 a2 a3 _).mono ?_
 rintro e w1 ⟨rfl, hB1⟩
 have hB : Below w.heap.size w w1 := ak (dW _ _ _ _) hB1
 have hs : w.heap.size + 3 ≤ w1.heap.size := by have := hB1.size; simpa [Nat.add_assoc] using this
 have va : aG w1 w.heap.size a1 a2 a3 := (((by simpa using aF w a1 a2 a3 _ : aG _ w.heap.size a1 a2 a3).alloc (by simp) _).alloc (by simp; omega) _).kept (by simp; omega) hB1
 have vb : aG w1 (w.heap.size + 1) b1 b2 b3 := ((by simpa using aF (w.alloc _) b1 b2 b3 _ : aG _ (w.heap.size + 1) b1 b2 b3).alloc (by simp) _).kept (by simp) hB1
 have vr : aG w1 (w.heap.size + 1 + 1) 0 0 0 := (by simpa using aF ((w.alloc _).alloc _) 0 0 0 _ : aG _ (w.heap.size + 1 + 1) 0 0 0).kept (by simp) hB1
 have fr : eS w1 (w.heap.size + 1 + 1) := (by simpa using eC ((w.alloc _).alloc _) 0 0 0 _ : eS _ (w.heap.size + 1 + 1)).kept (by simp) hB1
 clear hB1
 have hva := va
 obtain ⟨ca0, ca1, ca2⟩ := va
 have hvb := vb
 obtain ⟨cb0, cb1, cb2⟩ := vb
 have hvr := vr
 have hfr := fr
 obtain ⟨cr0, cr1, cr2⟩ := vr
 obtain ⟨fr0, fr1, fr2⟩ := fr
 cases ha : ax a1 a2 a3
 ·go_wp2_with fail
  exact bodyPost_ret (v := .agg #[.int .i64 0, .int .i64 0, .int .i64 0]) (by simp [results, Tryz.results178, go_sem, cr0, cr1, cr2]) rfl ⟨by simp [crI, ha], bI hB (by omega) _ _ _⟩
 ·go_wp2_with fail
  refine (bZ b1 b2 b3 _).mono ?_
  rintro e w2 ⟨rfl, hB2⟩
  have va := hva.kept (by omega) hB2
  have vb := hvb.kept (by omega) hB2
  have vr := hvr.kept (by omega) hB2
  have fr := hfr.kept (by omega) hB2
  replace hs : w.heap.size + 3 ≤ w2.heap.size := by have := hB2.size; omega
  replace hB : Below w.heap.size w w2 := ak hB hB2
  clear hva ca0 ca1 ca2 hvb cb0 cb1 cb2 hvr hfr cr0 cr1 cr2 fr0 fr1 fr2
  clear hB2
  have hva := va
  obtain ⟨ca0, ca1, ca2⟩ := va
  have hvb := vb
  obtain ⟨cb0, cb1, cb2⟩ := vb
  have hvr := vr
  have hfr := fr
  obtain ⟨cr0, cr1, cr2⟩ := vr
  obtain ⟨fr0, fr1, fr2⟩ := fr
  cases hb : ax b1 b2 b3
  ·go_wp2_with fail
   exact bodyPost_ret (v := .agg #[.int .i64 0, .int .i64 0, .int .i64 0]) (by simp [results, Tryz.results178, go_sem, cr0, cr1, cr2]) rfl ⟨by simp [crI, hb], bI hB (by omega) _ _ _⟩
  ·go_wp2_with fail
   exact bodyPost_ret (v := .agg #[.int .i64 (crW a2 a3 b2 b3), .int .i64 (crW a3 a1 b3 b1), .int .i64 (crW a1 a2 b1 b2)]) (by simp [results, Tryz.results178, go_sem, cr0, cr1, cr2, crW]) rfl ⟨by simp [crI, ha, hb], bI hB (by omega) _ _ _⟩
theorem mu (a1 a2 a3 b1 b2 b3 : Int) (w : World) :
  Calls Tryz.prog 57 #[.agg #[.int .i64 a1, .int .i64 a2, .int .i64 a3], .agg #[.int .i64 b1, .int .i64 b2, .int .i64 b3]] w fun e w' => e = .returned (.agg #[.int .i64 (crW a2 a3 b2 b3), .int .i64 (crW a3 a1 b3 b1), .int .i64 (crW a1 a2 b1 b2)]) ∧ Below w.heap.size w w' := by
 go_enter Tryz.func57, Tryz.ntmps57
 go_wp2
 exact bodyPost_ret (v := .agg #[.int .i64 (crW a2 a3 b2 b3), .int .i64 (crW a3 a1 b3 b1), .int .i64 (crW a1 a2 b1 b2)]) (by simp [results, Tryz.results57, go_sem, crW]) rfl ⟨rfl, dW _ _ _ _⟩
theorem uN {a b : Int} (h : b ≠ 0) (hb : -1000000 ≤ b ∧ b ≤ 1000000) : wrap64 (a.tmod b) = a.tmod b ∧ -1000000 ≤ a.tmod b ∧ a.tmod b ≤ 1000000 := by
 have := tE a b h
 have h2 : -1000000 ≤ a.tmod b ∧ a.tmod b ≤ 1000000 := by omega
 exact ⟨aq (by omega) (by omega), h2⟩
theorem dg (w : World) (n : Nat) : Below w.heap.size w (w.drewN n) := ⟨rfl, rfl, rfl, Nat.le_refl _, fun _ _ => rfl⟩
theorem fi (a b : Int) (w : World) (ha : -1000000 ≤ a ∧ a ≤ 1000000) (hb : -1000000 ≤ b ∧ b ≤ 1000000) :
  Calls Tryz.prog 145 #[.int .i64 a, .int .i64 b] w fun e w' => e = .returned (.int .i64 ((Int.gcd a b : Nat) : Int)) ∧ ∃ n, w' = w.drewN n := by
 go_enter Tryz.func145, Tryz.ntmps145
 go_wp2
 go_loopw [0, 1] (fun u v wr => ∃ p q : Int, u = .int .i64 p ∧ v = .int .i64 q ∧ Hid (-1000000 ≤ p ∧ p ≤ 1000000) ∧ Hid (-1000000 ≤ q ∧ q ≤ 1000000) ∧ Hid (Int.gcd p q = Int.gcd a b) ∧ ∃ n, wr = w.drewN n) (fun _ v _ => (intOf v).natAbs)
 case atStart => exact ⟨a, b, rfl, rfl, yz ha, yz hb, yz rfl, 0, rfl⟩
 case round =>
  obtain ⟨p, q, rfl, rfl, hp, hq, hg, nd, rfl⟩ := hrel
  by_cases h0 : q = 0
  ·subst h0
   have HG := yz (vh p)
   by_cases hn : p < 0
   ·have HW : Hid (wrap64 (-p) = -p) := yz (by have := yy hp; exact aq (by omega) (by omega))
    have HR := yz (show ((Int.gcd a b : Nat) : Int) = -p by rw [← yy hg, yy HG, if_pos hn])
    go_wp2
    go_ret
    exact ⟨by rw [yy HR]; exact congrArg (fun x => Ending.returned (Value.int .i64 x)) (yy HW), nd, rfl⟩
   ·have HR := yz (show ((Int.gcd a b : Nat) : Int) = p by rw [← yy hg, yy HG, if_neg hn])
    go_wp2
    go_ret
    exact ⟨by rw [yy HR]; rfl, nd, rfl⟩
  ·have hz : (q == 0) = false := by simp [h0]
   have hr := uN (a := p) h0 (yy hq)
   have HL := yz (tE p q h0)
   have HS := yz (vZ p q)
   obtain ⟨r, hre⟩ : ∃ r, p.tmod q = r := ⟨_, rfl⟩
   have hrw := hr.1
   have HRB := yz hr.2
   rw [hre] at hrw HRB HL HS
   clear hr
   go_wp2
   go_region
   go_wp2
   go_roundw
   case rel => exact ⟨q, r, rfl, rfl, hq, HRB, yz ((yy HS).trans (yy hg)), nd + 1, rfl⟩
   case measure => simp [intOf]; exact yy HL
theorem gW (a b : Int) (w : World) (ha : -1000000 ≤ a ∧ a ≤ 1000000) (hb : -1000000 ≤ b ∧ b ≤ 1000000) :
  Calls Tryz.prog 56 #[.int .i64 a, .int .i64 b] w fun e w' => e = .returned (.int .i64 ((Int.gcd a b : Nat) : Int)) ∧ ∃ n, w' = w.drewN n := by
 go_enter Tryz.func56, Tryz.ntmps56
 go_wp2
 go_loopw [0, 1] (fun u v wr => ∃ p q : Int, u = .int .i64 p ∧ v = .int .i64 q ∧ Hid (-1000000 ≤ p ∧ p ≤ 1000000) ∧ Hid (-1000000 ≤ q ∧ q ≤ 1000000) ∧ Hid (Int.gcd p q = Int.gcd a b) ∧ ∃ n, wr = w.drewN n) (fun _ v _ => (intOf v).natAbs)
 case atStart => exact ⟨a, b, rfl, rfl, yz ha, yz hb, yz rfl, 0, rfl⟩
 case round =>
  obtain ⟨p, q, rfl, rfl, hp, hq, hg, nd, rfl⟩ := hrel
  by_cases h0 : q = 0
  ·subst h0
   have HG := yz (vh p)
   by_cases hn : p < 0
   ·have HW : Hid (wrap64 (-p) = -p) := yz (by have := yy hp; exact aq (by omega) (by omega))
    have HR := yz (show ((Int.gcd a b : Nat) : Int) = -p by rw [← yy hg, yy HG, if_pos hn])
    go_wp2
    go_ret
    exact ⟨by rw [yy HR]; exact congrArg (fun x => Ending.returned (Value.int .i64 x)) (yy HW), nd, rfl⟩
   ·have HR := yz (show ((Int.gcd a b : Nat) : Int) = p by rw [← yy hg, yy HG, if_neg hn])
    go_wp2
    go_ret
    exact ⟨by rw [yy HR]; rfl, nd, rfl⟩
  ·have hz : (q == 0) = false := by simp [h0]
   have hr := uN (a := p) h0 (yy hq)
   have HL := yz (tE p q h0)
   have HS := yz (vZ p q)
   obtain ⟨r, hre⟩ : ∃ r, p.tmod q = r := ⟨_, rfl⟩
   have hrw := hr.1
   have HRB := yz hr.2
   rw [hre] at hrw HRB HL HS
   clear hr
   go_wp2
   go_roundw
   case rel => exact ⟨q, r, rfl, rfl, hq, HRB, yz ((yy HS).trans (yy hg)), nd, rfl⟩
   case measure => simp [intOf]; exact yy HL
theorem jG (x y z : Int) (w : World) (hr : ax x y z = true) :
  Calls Tryz.prog 34 #[.agg #[.int .i64 x, .int .i64 y, .int .i64 z]] w fun e w' => e = .returned (.agg #[.int .i64 (wrap64 (x.tdiv (gI x y z))), .int .i64 (wrap64 (y.tdiv (gI x y z))), .int .i64 (wrap64 (z.tdiv (gI x y z)))]) ∧ Below w.heap.size w w' := by
 obtain ⟨⟨hx, hy, hz⟩, _⟩ := bl.1 hr
 have hg1 := lM hx hy
 have hpos := BW hr
 go_enter Tryz.func34, Tryz.ntmps34
 go_wp2_with fail
 go_quiet (first | (go_at_call_of 56 (Value.int IntKind.i64 x); refine Calls.quiet_of (gW x y _ hx hy)) | (go_at_call 56; refine Calls.quiet_of (gW _ z _ ?_ hz); omega))
 have hz0 : (gI x y z == 0) = false := by simp; omega
 have hgi : ((Int.gcd ((Int.gcd x y : Nat) : Int) z : Nat) : Int) = gI x y z := rfl
 rw [hgi]
 clear hgi
 generalize hge : gI x y z = g at hpos hz0 ⊢
 have HG := yz hge
 clear hge
 have va : aG (((w.alloc (.cells #[.int .i64 x, .int .i64 y, .int .i64 z] 58)).alloc (.cells #[.int .i64 0, .int .i64 0, .int .i64 0] 58)).drewN nq) w.heap.size x y z := ((aF w x y z _).alloc (by simp) _)
 have vr : aG (((w.alloc (.cells #[.int .i64 x, .int .i64 y, .int .i64 z] 58)).alloc (.cells #[.int .i64 0, .int .i64 0, .int .i64 0] 58)).drewN nq) (w.heap.size + 1) 0 0 0 := (by simpa using aF (w.alloc (.cells #[.int .i64 x, .int .i64 y, .int .i64 z] 58)) 0 0 0 58 : aG ((w.alloc (.cells #[.int .i64 x, .int .i64 y, .int .i64 z] 58)).alloc (.cells #[.int .i64 0, .int .i64 0, .int .i64 0] 58)) (w.heap.size + 1) 0 0 0)
 have fr : eS (((w.alloc (.cells #[.int .i64 x, .int .i64 y, .int .i64 z] 58)).alloc (.cells #[.int .i64 0, .int .i64 0, .int .i64 0] 58)).drewN nq) (w.heap.size + 1) := (by simpa using eC (w.alloc (.cells #[.int .i64 x, .int .i64 y, .int .i64 z] 58)) 0 0 0 58 : eS ((w.alloc (.cells #[.int .i64 x, .int .i64 y, .int .i64 z] 58)).alloc (.cells #[.int .i64 0, .int .i64 0, .int .i64 0] 58)) (w.heap.size + 1))
 have hB : Below w.heap.size w (((w.alloc (.cells #[.int .i64 x, .int .i64 y, .int .i64 z] 58)).alloc (.cells #[.int .i64 0, .int .i64 0, .int .i64 0] 58)).drewN nq) := ak (aO _ _ _) (dg _ _)
 generalize ((w.alloc (.cells #[.int .i64 x, .int .i64 y, .int .i64 z] 58)).alloc (.cells #[.int .i64 0, .int .i64 0, .int .i64 0] 58)).drewN nq = w1 at va vr fr hB ⊢
 obtain ⟨ca0, ca1, ca2⟩ := va
 obtain ⟨cr0, cr1, cr2⟩ := vr
 obtain ⟨fr0, fr1, fr2⟩ := fr
 clear hg1 hx hy hz hr
 go_wp2_with fail
 go_region
 go_wp2
 exact bodyPost_ret (v := .agg #[.int .i64 (wrap64 (x.tdiv g)), .int .i64 (wrap64 (y.tdiv g)), .int .i64 (wrap64 (z.tdiv g))]) (by simp [results, Tryz.results34, go_sem, cr0, cr1, cr2]) rfl ⟨by rw [yy HG], (bI hB (by omega) _ _ _).drew⟩
def gS (x y z : Int) : Nat → Int
 | 0 => 0
 | 1 => ((Int.gcd 0 x : Nat) : Int)
 | 2 => ((Int.gcd ((Int.gcd 0 x : Nat) : Int) y : Nat) : Int)
 | _ => ((Int.gcd ((Int.gcd ((Int.gcd 0 x : Nat) : Int) y : Nat) : Int) z : Nat) : Int)
theorem Ck {x y z : Int} (k : Nat) (h : (-1000000 ≤ x ∧ x ≤ 1000000) ∧ (-1000000 ≤ y ∧ y ≤ 1000000) ∧ (-1000000 ≤ z ∧ z ≤ 1000000)) : -1000000 ≤ gS x y z k ∧ gS x y z k ≤ 1000000 := by
 have h1 := lM (a := 0) (m := 1000000) (by omega) h.1
 have h2 := lM (m := 1000000) (a := ((Int.gcd 0 x : Nat) : Int)) (by omega) h.2.1
 have h3 := lM (m := 1000000) (a := ((Int.gcd ((Int.gcd 0 x : Nat) : Int) y : Nat) : Int)) (by omega) h.2.2
 match k with
 | 0 => exact ⟨by show (-1000000 : Int) ≤ 0; omega, by show (0 : Int) ≤ 1000000; omega⟩
 | 1 => exact ⟨by show (-1000000 : Int) ≤ ((Int.gcd 0 x : Nat) : Int); omega, h1.2⟩
 | 2 => exact ⟨by show (-1000000 : Int) ≤ ((Int.gcd ((Int.gcd 0 x : Nat) : Int) y : Nat) : Int); omega, h2.2⟩
 | k + 3 => exact ⟨by show (-1000000 : Int) ≤ ((Int.gcd ((Int.gcd ((Int.gcd 0 x : Nat) : Int) y : Nat) : Int) z : Nat) : Int); omega, h3.2⟩
theorem nA (a1 a2 a3 : Int) (w : World) :
  Calls Tryz.prog 133 #[.agg #[.int .i64 a1, .int .i64 a2, .int .i64 a3]] w fun e w' => e = .returned (.agg #[.int .i64 (prI (ax a1 a2 a3) (gI a1 a2 a3) a1), .int .i64 (prI (ax a1 a2 a3) (gI a1 a2 a3) a2), .int .i64 (prI (ax a1 a2 a3) (gI a1 a2 a3) a3)]) ∧ Below w.heap.size w w' := by
 go_enter Tryz.func133, Tryz.ntmps133
 go_wp2_with fail
 refine (bZ a1 a2 a3 _).mono ?_
 rintro e w1 ⟨rfl, hB1⟩
 have hB : Below w.heap.size w w1 := ak (aO _ _ _) hB1
 have hs : w.heap.size + 2 ≤ w1.heap.size := by have := hB1.size; simpa [Nat.add_assoc] using this
 have va : aG w1 w.heap.size a1 a2 a3 := ((by simpa using aF w a1 a2 a3 _ : aG _ w.heap.size a1 a2 a3).alloc (by simp) _).kept (by simp; omega) hB1
 have vr : aG w1 (w.heap.size + 1) 0 0 0 := (by simpa using aF (w.alloc _) 0 0 0 _ : aG _ (w.heap.size + 1) 0 0 0).kept (by simp) hB1
 have fr : eS w1 (w.heap.size + 1) := (by simpa using eC (w.alloc _) 0 0 0 _ : eS _ (w.heap.size + 1)).kept (by simp) hB1
 clear hB1
 have hva := va
 obtain ⟨ca0, ca1, ca2⟩ := va
 have hvr := vr
 have hfr := fr
 obtain ⟨cr0, cr1, cr2⟩ := vr
 obtain ⟨fr0, fr1, fr2⟩ := fr
 cases ha : ax a1 a2 a3
 ·go_wp2_with fail
  exact bodyPost_ret (v := .agg #[.int .i64 0, .int .i64 0, .int .i64 0]) (by simp [results, Tryz.results133, go_sem, cr0, cr1, cr2]) rfl ⟨by simp [prI, ha], bI hB (by omega) _ _ _⟩
 ·go_wp2_with fail
  refine (rZ a1 a2 a3 _).mono ?_
  rintro e w2 ⟨rfl, hB2⟩
  have va := hva.kept (by omega) hB2
  have vr := hvr.kept (by omega) hB2
  have fr := hfr.kept (by omega) hB2
  replace hs : w.heap.size + 2 ≤ w2.heap.size := by have := hB2.size; omega
  replace hB : Below w.heap.size w w2 := ak hB hB2
  clear hB2 hva hvr hfr ca0 ca1 ca2 cr0 cr1 cr2 fr0 fr1 fr2
  have i0 : ∀ w : World, (Instr.index 203 (.agg #[.int .i64 a1, .int .i64 a2, .int .i64 a3]) (.int .i64 0)).run Tryz.prog w = .ok (.int .i64 a1) w := fun _ => by kernel_rfl
  have i1 : ∀ w : World, (Instr.index 203 (.agg #[.int .i64 a1, .int .i64 a2, .int .i64 a3]) (.int .i64 1)).run Tryz.prog w = .ok (.int .i64 a2) w := fun _ => by kernel_rfl
  have i2 : ∀ w : World, (Instr.index 203 (.agg #[.int .i64 a1, .int .i64 a2, .int .i64 a3]) (.int .i64 2)).run Tryz.prog w = .ok (.int .i64 a3) w := fun _ => by kernel_rfl
  have HR := yz (bl.1 ha).1
  have HP := yz (BW ha)
  go_wp2_with fail
  go_loopw [3, 12] (fun u i wr => ∃ (k n : Nat), k ≤ 3 ∧ i = .int .i64 k ∧ u = .int .i64 (gS a1 a2 a3 k) ∧ wr = w2.drewN n) (fun _ i _ => 3 - (intOf i).toNat)
  case atStart => exact ⟨0, 0, by omega, rfl, rfl, rfl⟩
  case round =>
   obtain ⟨k, n, hk, rfl, rfl, rfl⟩ := hrel
   have hk4 : k = 0 ∨ k = 1 ∨ k = 2 ∨ k = 3 := by omega
   rcases hk4 with rfl | rfl | rfl | rfl
   ·go_wp2_with fail
    refine (fi _ a1 _ (Ck 0 (yy HR)) (yy HR).1).mono ?_
    rintro e w3 ⟨rfl, m, rfl⟩
    go_wp2_with fail
    go_roundw
    case rel => exact ⟨1, n + m, by omega, rfl, rfl, by simp⟩
    case measure => simp [intOf]
   ·go_wp2_with fail
    refine (fi _ a2 _ (Ck 1 (yy HR)) (yy HR).2.1).mono ?_
    rintro e w3 ⟨rfl, m, rfl⟩
    go_wp2_with fail
    go_roundw
    case rel => exact ⟨2, n + m, by omega, rfl, rfl, by simp⟩
    case measure => simp [intOf]
   ·go_wp2_with fail
    refine (fi _ a3 _ (Ck 2 (yy HR)) (yy HR).2.2).mono ?_
    rintro e w3 ⟨rfl, m, rfl⟩
    go_wp2_with fail
    go_roundw
    case rel => exact ⟨3, n + m, by omega, rfl, rfl, by simp⟩
    case measure => simp [intOf]
   ·have hgs : gS a1 a2 a3 3 = gI a1 a2 a3 := zD a1 a2 a3
    rw [hgs]
    clear hgs
    have hpos := yy HP
    have hz0 : (gI a1 a2 a3 == 0) = false := by simp; omega
    generalize hge : gI a1 a2 a3 = g at hpos hz0 ⊢
    have HG := yz hge
    clear hge i0 i1 i2
    have va' : aG (w2.drewN n) w.heap.size a1 a2 a3 := va
    have vr' : aG (w2.drewN n) (w.heap.size + 1) 0 0 0 := vr
    have fr' : eS (w2.drewN n) (w.heap.size + 1) := fr
    have hB' : Below w.heap.size w (w2.drewN n) := ak hB (dg _ _)
    clear va vr fr hB hs
    go_wp2_with fail
    generalize w2.drewN n = w3 at va' vr' fr' hB' ⊢
    obtain ⟨ca0, ca1, ca2⟩ := va'
    obtain ⟨cr0, cr1, cr2⟩ := vr'
    obtain ⟨fr0, fr1, fr2⟩ := fr'
    go_region
    go_wp2
    exact bodyPost_ret (v := .agg #[.int .i64 (wrap64 (a1.tdiv g)), .int .i64 (wrap64 (a2.tdiv g)), .int .i64 (wrap64 (a3.tdiv g))]) (by simp [results, Tryz.results133, go_sem, cr0, cr1, cr2]) rfl ⟨by rw [yy HG]; simp [prI, ha], (bI hB' (by omega) _ _ _).drew⟩
end
section
open Go.RowKit Go.Sort
theorem yt (a1 a2 a3 b1 b2 b3 c1 c2 c3 : Int) (w : World) :
  Calls Tryz.prog 194 #[.agg #[.int .i64 a1, .int .i64 a2, .int .i64 a3], .agg #[.int .i64 b1, .int .i64 b2, .int .i64 b3], .agg #[.int .i64 c1, .int .i64 c2, .int .i64 c3]] w fun e w' => e = .returned (.int .i64 (rd a1 a2 a3 b1 b2 b3 c1 c2 c3)) ∧ Below w.heap.size w w' := by
 go_enter Tryz.func194, Tryz.ntmps194
 go_wp2_with fail
 refine (bZ a1 a2 a3 _).mono ?_
 rintro e w1 ⟨rfl, hB1⟩
 have hB : Below w.heap.size w w1 := ak (dW _ _ _ _) hB1
 have hs : w.heap.size + 3 ≤ w1.heap.size := by have := hB1.size; simpa [Nat.add_assoc] using this
 have va : aG w1 w.heap.size a1 a2 a3 := (((by simpa using aF w a1 a2 a3 _ : aG _ w.heap.size a1 a2 a3).alloc (by simp) _).alloc (by simp; omega) _).kept (by simp; omega) hB1
 have vb : aG w1 (w.heap.size + 1) b1 b2 b3 := ((by simpa using aF (w.alloc _) b1 b2 b3 _ : aG _ (w.heap.size + 1) b1 b2 b3).alloc (by simp) _).kept (by simp) hB1
 have vc : aG w1 (w.heap.size + 1 + 1) c1 c2 c3 := (by simpa using aF ((w.alloc _).alloc _) c1 c2 c3 _ : aG _ (w.heap.size + 1 + 1) c1 c2 c3).kept (by simp) hB1
 clear hB1
 have hva := va
 obtain ⟨ca0, ca1, ca2⟩ := va
 have hvb := vb
 obtain ⟨cb0, cb1, cb2⟩ := vb
 have hvc := vc
 obtain ⟨cc0, cc1, cc2⟩ := vc
 cases ha : ax a1 a2 a3
 ·go_wp2_with fail
  go_ret
  exact ⟨by simp [rd, ha], hB⟩
 ·go_wp2_with fail
  refine (bZ b1 b2 b3 _).mono ?_
  rintro e w2 ⟨rfl, hB2⟩
  have va := hva.kept (by omega) hB2
  have vb := hvb.kept (by omega) hB2
  have vc := hvc.kept (by omega) hB2
  replace hs : w.heap.size + 3 ≤ w2.heap.size := by have := hB2.size; omega
  replace hB : Below w.heap.size w w2 := ak hB hB2
  clear hva ca0 ca1 ca2 hvb cb0 cb1 cb2 hvc cc0 cc1 cc2
  clear hB2
  have hva := va
  obtain ⟨ca0, ca1, ca2⟩ := va
  have hvb := vb
  obtain ⟨cb0, cb1, cb2⟩ := vb
  have hvc := vc
  obtain ⟨cc0, cc1, cc2⟩ := vc
  cases hb : ax b1 b2 b3
  ·go_wp2_with fail
   go_ret
   exact ⟨by simp [rd, hb], hB⟩
  ·go_wp2_with fail
   refine (bZ c1 c2 c3 _).mono ?_
   rintro e w3 ⟨rfl, hB3⟩
   have va := hva.kept (by omega) hB3
   have vb := hvb.kept (by omega) hB3
   have vc := hvc.kept (by omega) hB3
   replace hs : w.heap.size + 3 ≤ w3.heap.size := by have := hB3.size; omega
   replace hB : Below w.heap.size w w3 := ak hB hB3
   clear hva ca0 ca1 ca2 hvb cb0 cb1 cb2 hvc cc0 cc1 cc2
   clear hB3
   have hva := va
   obtain ⟨ca0, ca1, ca2⟩ := va
   have hvb := vb
   obtain ⟨cb0, cb1, cb2⟩ := vb
   have hvc := vc
   obtain ⟨cc0, cc1, cc2⟩ := vc
   cases hc : ax c1 c2 c3
   ·go_wp2_with fail
    go_ret
    exact ⟨by simp [rd, hc], hB⟩
   ·go_wp2_with fail
    clear hva hvb hvc
    have HD := yz (show rd a1 a2 a3 b1 b2 b3 c1 c2 c3 = bx (crW a2 a3 b2 b3) (crW a3 a1 b3 b1) (crW a1 a2 b1 b2) c1 c2 c3 by simp [rd, ha, hb, hc])
    have ka0 := cell_regrown ca0
    have ka1 := cell_regrown ca1
    have ka2 := cell_regrown ca2
    have kb0 := cell_regrown cb0
    have kb1 := cell_regrown cb1
    have kb2 := cell_regrown cb2
    have kc0 := cell_regrown cc0
    have kc1 := cell_regrown cc1
    have kc2 := cell_regrown cc2
    refine wp_region_quiet_below (by kernel_rfl) (by kernel_rfl) ?_
    repeat (quiet_step (first | exact Calls.regrown_of (rF a1 a2 a3 b1 b2 b3 _) | exact Calls.regrown_of (nC _ _ _ c1 c2 c3 _)))
    refine wpQuiet_nil ?_
    intro _ hw'
    obtain ⟨⟨dq, osq⟩, hw''⟩ := hw'
    subst hw''
    clear ca0 ka0 ca1 ka1 ca2 ka2 cb0 kb0 cb1 kb1 cb2 kb2 cc0 kc0 cc1 kc1 cc2 kc2
    go_wp2
    go_ret
    exact ⟨by rw [yy HD]; simp [crI], ak hB (below_regrown w3 dq osq)⟩
theorem Bk (a1 a2 a3 b1 b2 b3 : Int) : dB a1 a2 a3 b1 b2 b3 = (eqB (crI (ax a1 a2 a3 && ax b1 b2 b3) a2 a3 b2 b3) (crI (ax a1 a2 a3 && ax b1 b2 b3) a3 a1 b3 b1) (crI (ax a1 a2 a3 && ax b1 b2 b3) a1 a2 b1 b2) 0 0 0 && decide (0 < sS a1 a2 a3 b1 b2 b3)) := by
 unfold dB crI sS
 cases h : (ax a1 a2 a3 && ax b1 b2 b3)
 ·simp
 ·simp [eqB, gD]
theorem iz (a1 a2 a3 b1 b2 b3 : Int) (w : World) :
  Calls Tryz.prog 165 #[.agg #[.int .i64 a1, .int .i64 a2, .int .i64 a3], .agg #[.int .i64 b1, .int .i64 b2, .int .i64 b3]] w fun e w' => e = .returned (.bool (dB a1 a2 a3 b1 b2 b3)) ∧ Below w.heap.size w w' := by
 have HS := yz (Bk a1 a2 a3 b1 b2 b3)
 go_enter Tryz.func165, Tryz.ntmps165
 go_wp2_with fail
 refine (rF a1 a2 a3 b1 b2 b3 _).mono ?_
 rintro e w1 ⟨rfl, hB1⟩
 have hB : Below w.heap.size w w1 := ak (aO _ _ _) hB1
 have va : aG w1 w.heap.size a1 a2 a3 := ((aF w a1 a2 a3 _).alloc (by simp) _).kept (by simp; omega) hB1
 have vb : aG w1 (w.heap.size + 1) b1 b2 b3 := (by simpa using aF (w.alloc _) b1 b2 b3 _ : aG _ (w.heap.size + 1) b1 b2 b3).kept (by simp) hB1
 clear hB1
 obtain ⟨ca0, ca1, ca2⟩ := va
 obtain ⟨cb0, cb1, cb2⟩ := vb
 generalize crI (ax a1 a2 a3 && ax b1 b2 b3) a2 a3 b2 b3 = x at HS ⊢
 generalize crI (ax a1 a2 a3 && ax b1 b2 b3) a3 a1 b3 b1 = y at HS ⊢
 generalize crI (ax a1 a2 a3 && ax b1 b2 b3) a1 a2 b1 b2 = z at HS ⊢
 have he := fun w => uf x y z 0 0 0 w
 cases hz : eqB x y z 0 0 0
 ·rw [hz] at he HS
  go_wp2_with fail
  go_ret
  exact ⟨by rw [yy HS]; rfl, hB⟩
 ·rw [hz] at he HS
  go_wp2_with fail
  refine (sI a1 a2 a3 b1 b2 b3 _).mono ?_
  rintro e w2 ⟨rfl, hB2⟩
  replace hB := ak hB hB2
  go_wp2_with fail
  go_ret
  exact ⟨by rw [yy HS, Bool.true_and]; rfl, hB⟩
theorem kr (a1 a2 a3 b1 b2 b3 : Int) (w : World) :
  Calls Tryz.prog 35 #[.agg #[.int .i64 a1, .int .i64 a2, .int .i64 a3], .agg #[.int .i64 b1, .int .i64 b2, .int .i64 b3]] w fun e w' => e = .returned (.bool (eqB (crW a2 a3 b2 b3) (crW a3 a1 b3 b1) (crW a1 a2 b1 b2) 0 0 0 && decide (0 < bx a1 a2 a3 b1 b2 b3))) ∧ Below w.heap.size w w' := by
 go_enter Tryz.func35, Tryz.ntmps35
 go_wp2_with fail
 refine (mu a1 a2 a3 b1 b2 b3 _).mono ?_
 rintro e w1 ⟨rfl, hB1⟩
 have hB : Below w.heap.size w w1 := ak (aO _ _ _) hB1
 have va : aG w1 w.heap.size a1 a2 a3 := ((aF w a1 a2 a3 _).alloc (by simp) _).kept (by simp; omega) hB1
 have vb : aG w1 (w.heap.size + 1) b1 b2 b3 := (by simpa using aF (w.alloc _) b1 b2 b3 _ : aG _ (w.heap.size + 1) b1 b2 b3).kept (by simp) hB1
 clear hB1
 obtain ⟨ca0, ca1, ca2⟩ := va
 obtain ⟨cb0, cb1, cb2⟩ := vb
 have he := fun w => uf (crW a2 a3 b2 b3) (crW a3 a1 b3 b1) (crW a1 a2 b1 b2) 0 0 0 w
 cases hz : eqB (crW a2 a3 b2 b3) (crW a3 a1 b3 b1) (crW a1 a2 b1 b2) 0 0 0
 ·rw [hz] at he
  go_wp2_with fail
  go_ret
  exact ⟨by rw [hz]; rfl, hB⟩
 ·rw [hz] at he
  go_wp2_with fail
  refine (fj a1 a2 a3 b1 b2 b3 _).mono ?_
  rintro e w2 ⟨rfl, hB2⟩
  replace hB := ak hB hB2
  go_wp2_with fail
  go_ret
  exact ⟨by rw [hz, Bool.true_and]; rfl, hB⟩
end
end Go.Proofs.YtlleafjdgblhcaaGreatDoor
