/- Several texts in one: Tz, VecMath, IdM, SkyMath, TurnMath, TurnMath2, MaM, Plain, VecA, VecB, VecC, SkyA, FrA, FrB, Bytes. -/
import Derived.Deep.RegionHeld
import Derived.WalkKit
import Derived.Laws.BitsAllLaws
import Derived.Test.YtgiodlllokdcdaaGreatDoorChecked
import Derived.Below
import Derived.Laws.StructEq
import Derived.WalkLawsBesides
import Derived.LaidEql
import Derived.Stop.Asserts
import Derived.RowKitTokens
import Derived.Lib.QuietBelow
import Derived.Deep.QuietTactic
import Derived.BigQuiet
import Derived.Test.YtgiodlllokdcdaaGreatDoorRows
import Derived.WalkSpells
import Derived.Lib.BufferWrite
import Derived.Lib.SlBytesRow
namespace Go.Proofs.YtgiodlllokdcdaaGreatDoor
set_option linter.unusedVariables false
set_option linter.unusedSimpArgs false
set_option maxRecDepth 100000
set_option maxHeartbeats 8000000
section
theorem ab {P : Program} {ops : Array Oper} {Q : Exit → Act → World → Prop} {md : Region.Mode} {S : World → Prop} {fuel : Nat} {listed : Array Bool} {a : Act} {w : World} (i : Nat) {oi : Oper} {v : Value} (hi : ops[i]? = some oi) (h : wpAnyH P md ops Q S fuel (listed.setIfInBounds i true) (a.put oi.dst v) w) (hs : Region.noSelect ops = true := by kernel_rfl) (hf : Region.free md ops listed i = true := by kernel_rfl) (hr : (Region.ready md ops listed).contains i = true := by kernel_rfl) (hQ : ∀ c a w, Q (.panic c) (a.put oi.dst v) w → Q (.panic c) a w := by exact fun _ _ _ h => h) (hw : Region.wanted oi (yielded ops a.tmps) = true := by kernel_rfl) (hy : ∀ w, S w → (execOp a.eval oi).run P w = .ok (.value v) w := by (intro W0 hSw; (try dsimp only at hSw); go_simp <;> with_reducible rfl)) (hS : S w := by assumption) : wpAnyH P md ops Q S (fuel + 1) listed a w := wpAnyH_take hi hs hf hr hQ (Or.inl ⟨hw, hy⟩) hS h
theorem ae {P : Program} {ops : Array Oper} {Q : Exit → Act → World → Prop} {md : Region.Mode} {S : World → Prop} {fuel : Nat} {listed : Array Bool} {a : Act} {w : World} (i : Nat) {o : Oper} (ho : ops[i]? = some o) (h : (∀ K' : Act → World → Prop, Shut (∀ a w, S w → (S w → wpAnyH P md ops Q S fuel (listed.setIfInBounds i true) a w) → K' a w) → if Region.wanted o (yielded ops a.tmps) = true then Oper.wp P o a w K' Q else K' (a.put o.dst undef) w)) (hr : Region.ready md ops listed = [i] := by kernel_rfl) : wpAnyH P md ops Q S (fuel + 1) listed a w := wpAnyH_ready hr (by simp) (AllReadyH.cons ho h AllReadyH.nil)
theorem af {P : Program} {ops : Array Oper} {Q : Exit → Act → World → Prop} {md : Region.Mode} {S : World → Prop} {fuel : Nat} {listed : Array Bool} {a : Act} {w : World} (i j : Nat) {o u : Oper} (ho : ops[i]? = some o) (h : (∀ K' : Act → World → Prop, Shut (∀ a w, S w → (S w → wpAnyH P md ops Q S fuel (listed.setIfInBounds i true) a w) → K' a w) → if Region.wanted o (yielded ops a.tmps) = true then Oper.wp P o a w K' Q else K' (a.put o.dst undef) w)) (hu : ops[j]? = some u) (g : (∀ K' : Act → World → Prop, Shut (∀ a w, S w → (S w → wpAnyH P md ops Q S fuel (listed.setIfInBounds j true) a w) → K' a w) → if Region.wanted u (yielded ops a.tmps) = true then Oper.wp P u a w K' Q else K' (a.put u.dst undef) w)) (hr : Region.ready md ops listed = [i, j] := by kernel_rfl) : wpAnyH P md ops Q S (fuel + 1) listed a w := wpAnyH_ready hr (by simp) (AllReadyH.cons ho h (AllReadyH.cons hu g AllReadyH.nil))
theorem ag {α : Type} (i : Nat) (x : α) (l : List α) : l.toArray.setIfInBounds i x = (l.set i x).toArray := List.setIfInBounds_toArray ..
theorem ah {α : Type} (x y : α) (l : List α) : (x :: l).set 0 y = y :: l := rfl
theorem ai {α : Type} (x y : α) (l : List α) (n : Nat) : (x :: l).set (n + 1) y = x :: l.set n y := rfl
end
section
open Go.RowKit
def inB (m x : Int) : Bool := decide (-m ≤ x ∧ x ≤ m)
def aK (m x y z : Int) : Bool := inB m x && inB m y && inB m z
def eT (x y z : Int) : Bool := decide (x = 0 ∧ y = 0 ∧ z = 0)
def ay (x y z : Int) : Bool := aK 1000000 x y z && !eT x y z
theorem eV {m x : Int} : inB m x = true ↔ -m ≤ x ∧ x ≤ m := by simp [inB]
theorem aW {m x y z : Int} : aK m x y z = true ↔ (-m ≤ x ∧ x ≤ m) ∧ (-m ≤ y ∧ y ≤ m) ∧ (-m ≤ z ∧ z ≤ m) := by
 simp [aK, eV, and_assoc]
theorem bh {x y z : Int} : ay x y z = true ↔ ((-1000000 ≤ x ∧ x ≤ 1000000) ∧ (-1000000 ≤ y ∧ y ≤ 1000000) ∧ (-1000000 ≤ z ∧ z ≤ 1000000)) ∧ ¬ (x = 0 ∧ y = 0 ∧ z = 0) := by
 unfold ay
 rw [Bool.and_eq_true, aW]
 simp only [eT, Bool.not_eq_true', decide_eq_false_iff_not]
theorem ap {n : Int} (h0 : -9223372036854775808 ≤ n) (h1 : n ≤ 9223372036854775807) : wrap64 n = n := by
 exact Go.IntWalk.wrap64_in n ⟨h0, h1⟩
theorem bv {a b A B : Int} (h1 : -A ≤ a ∧ a ≤ A) (h3 : -B ≤ b ∧ b ≤ B) : -(A * B) ≤ a * b ∧ a * b ≤ A * B := by
 have h : (a * b).natAbs ≤ A.natAbs * B.natAbs := by
  rw [Int.natAbs_mul]; exact Nat.mul_le_mul (by omega) (by omega)
 have : ((A.natAbs * B.natAbs : Nat) : Int) = A * B := by
  rw [Int.natCast_mul, Int.natAbs_of_nonneg (by omega), Int.natAbs_of_nonneg (by omega)]
 omega
def bt (a1 a2 a3 b1 b2 b3 : Int) : Int := wrap64 (wrap64 (wrap64 (a1 * b1) + wrap64 (a2 * b2)) + wrap64 (a3 * b3))
def dot (a1 a2 a3 b1 b2 b3 : Int) : Int := a1 * b1 + a2 * b2 + a3 * b3
def crW (a2 a3 b2 b3 : Int) : Int := wrap64 (wrap64 (a2 * b3) - wrap64 (a3 * b2))
theorem nj (a1 a2 a3 b1 b2 b3 : Int) : bt a1 a2 a3 b1 b2 b3 = bt b1 b2 b3 a1 a2 a3 := by
 unfold bt; rw [Int.mul_comm a1, Int.mul_comm a2, Int.mul_comm a3]
theorem bU {a1 a2 a3 b1 b2 b3 A B : Int} (ha : aK A a1 a2 a3 = true) (hb : aK B b1 b2 b3 = true) : -(3 * (A * B)) ≤ dot a1 a2 a3 b1 b2 b3 ∧ dot a1 a2 a3 b1 b2 b3 ≤ 3 * (A * B) := by
 rw [aW] at ha hb
 have h1 := bv ha.1 hb.1
 have h2 := bv ha.2.1 hb.2.1
 have h3 := bv ha.2.2 hb.2.2
 unfold dot
 omega
theorem cg {a1 a2 a3 b1 b2 b3 A B : Int} (ha : aK A a1 a2 a3 = true) (hb : aK B b1 b2 b3 = true) (h : 3 * (A * B) ≤ 9223372036854775807) : bt a1 a2 a3 b1 b2 b3 = dot a1 a2 a3 b1 b2 b3 := by
 rw [aW] at ha hb
 have h1 := bv ha.1 hb.1
 have h2 := bv ha.2.1 hb.2.1
 have h3 := bv ha.2.2 hb.2.2
 unfold bt dot
 rw [ap (n := a1 * b1) (by omega) (by omega), ap (n := a2 * b2) (by omega) (by omega), ap (n := a3 * b3) (by omega) (by omega), ap (n := a1 * b1 + a2 * b2) (by omega) (by omega), ap (by omega) (by omega)]
theorem dz {a2 a3 b2 b3 A B : Int} (h2 : -A ≤ a2 ∧ a2 ≤ A) (h3 : -A ≤ a3 ∧ a3 ≤ A) (k2 : -B ≤ b2 ∧ b2 ≤ B) (k3 : -B ≤ b3 ∧ b3 ≤ B) (h : 2 * (A * B) ≤ 9223372036854775807) :
  crW a2 a3 b2 b3 = a2 * b3 - a3 * b2 ∧ -(2 * (A * B)) ≤ a2 * b3 - a3 * b2 ∧ a2 * b3 - a3 * b2 ≤ 2 * (A * B) := by
 have h1 := bv h2 k3
 have h2 := bv h3 k2
 unfold crW
 rw [ap (n := a2 * b3) (by omega) (by omega), ap (n := a3 * b2) (by omega) (by omega), ap (by omega) (by omega)]
 omega
def oj (a1 a2 a3 b1 b2 b3 : Int) : Int := if ay a1 a2 a3 && ay b1 b2 b3 then bt a1 a2 a3 b1 b2 b3 else 0
def crI (r : Bool) (a2 a3 b2 b3 : Int) : Int := if r then crW a2 a3 b2 b3 else 0
def mI (a1 a2 a3 b1 b2 b3 c1 c2 c3 : Int) : Int :=
 if ay a1 a2 a3 && ay b1 b2 b3 && ay c1 c2 c3 then bt (crW a2 a3 b2 b3) (crW a3 a1 b3 b1) (crW a1 a2 b1 b2) c1 c2 c3 else 0
def gI (x y z : Int) : Int := ((Int.gcd (Int.gcd x y : Int) z : Nat) : Int)
def prI (r : Bool) (g x : Int) : Int := if r then wrap64 (x.tdiv g) else 0
def cJ (a1 a2 a3 b1 b2 b3 : Int) : Bool :=
 ay a1 a2 a3 && ay b1 b2 b3 && eT (crW a2 a3 b2 b3) (crW a3 a1 b3 b1) (crW a1 a2 b1 b2) && decide (0 < bt a1 a2 a3 b1 b2 b3)
theorem pD (a b : Int) : Int.gcd b (a.tmod b) = Int.gcd a b := by
 show Nat.gcd b.natAbs (a.tmod b).natAbs = Nat.gcd a.natAbs b.natAbs
 rw [Int.natAbs_tmod, Nat.gcd_comm b.natAbs, ← Nat.gcd_rec, Nat.gcd_comm]
theorem pE (a : Int) : ((Int.gcd a 0 : Nat) : Int) = if a < 0 then -a else a := by
 rw [Int.gcd_zero_right]
 split <;> omega
theorem pe (a b : Int) (h : b ≠ 0) : (a.tmod b).natAbs < b.natAbs := by
 rw [Int.natAbs_tmod]; exact Nat.mod_lt _ (by omega)
theorem iS {a b m : Int} (ha : -m ≤ a ∧ a ≤ m) (hb : -m ≤ b ∧ b ≤ m) : 0 ≤ ((Int.gcd a b : Nat) : Int) ∧ ((Int.gcd a b : Nat) : Int) ≤ m := by
 refine ⟨by omega, ?_⟩
 by_cases h : a = 0
 ·subst h; rw [Int.gcd_zero_left]; omega
 ·have := Nat.le_of_dvd (by omega) (Nat.gcd_dvd_left a.natAbs b.natAbs)
  have e : Int.gcd a b = Nat.gcd a.natAbs b.natAbs := rfl
  omega
theorem ss (x y z : Int) : ((Int.gcd ((Int.gcd ((Int.gcd 0 x : Nat) : Int) y : Nat) : Int) z : Nat) : Int) = gI x y z := by
 unfold gI
 have : Int.gcd ((Int.gcd 0 x : Nat) : Int) y = Int.gcd x y := by
  rw [Int.gcd_zero_left]
  show Nat.gcd (x.natAbs : Int).natAbs y.natAbs = Nat.gcd x.natAbs y.natAbs
  rw [Int.natAbs_natCast]
 rw [this]
theorem tC {x y z : Int} (h : ay x y z = true) : 0 < gI x y z := by
 rw [bh] at h
 unfold gI
 have h2 : Int.gcd ((Int.gcd x y : Nat) : Int) z ≠ 0 := by
  intro e
  rw [Int.gcd_eq_zero_iff] at e
  have e1 : Int.gcd x y = 0 := by omega
  rw [Int.gcd_eq_zero_iff] at e1
  exact h.2 ⟨e1.1, e1.2, e.2⟩
 omega
theorem mu {x y z : Int} (h : ¬ (x = 0 ∧ y = 0 ∧ z = 0)) : 0 < dot x y z x y z := by
 unfold dot
 have hx : 0 ≤ x * x := by rw [← Int.natAbs_mul_self' x]; exact Int.natCast_nonneg _
 have hy : 0 ≤ y * y := by rw [← Int.natAbs_mul_self' y]; exact Int.natCast_nonneg _
 have hz : 0 ≤ z * z := by rw [← Int.natAbs_mul_self' z]; exact Int.natCast_nonneg _
 by_cases h1 : x = 0
 ·by_cases h2 : y = 0
  ·have h3 : z ≠ 0 := fun e => h ⟨h1, h2, e⟩
   have : z * z ≠ 0 := fun e => by rcases Int.mul_eq_zero.1 e with e | e <;> exact h3 e
   omega
  ·have : y * y ≠ 0 := fun e => by rcases Int.mul_eq_zero.1 e with e | e <;> exact h2 e
   omega
 ·have : x * x ≠ 0 := fun e => by rcases Int.mul_eq_zero.1 e with e | e <;> exact h1 e
  omega
def sgn (n : Int) : Int := if n < 0 then -1 else if 0 < n then 1 else 0
def eS (a b : Int) : Int := if a < b then -1 else if b < a then 1 else 0
def ssq (n : Int) : Int := if n < 0 then -n * n else n * n
def kV (n : Int) : Int := if n < 0 then wrap64 (wrap64 (-n) * n) else wrap64 (n * n)
def bO (x y z : Int) : Bool := ay x y z && aK 1800 x y z
def aL (x y z : Int) : Bool := ay x y z && aK 10 x y z
def jQ (a1 a2 a3 b1 b2 b3 c1 c2 c3 d1 d2 d3 : Int) : Int :=
 if bO a1 a2 a3 && bO b1 b2 b3 && aL c1 c2 c3 && aL d1 d2 d3 then
  eS (ssq (dot a1 a2 a3 b1 b2 b3) * (dot c1 c2 c3 c1 c2 c3 * dot d1 d2 d3 d1 d2 d3)) (ssq (dot c1 c2 c3 d1 d2 d3) * (dot a1 a2 a3 a1 a2 a3 * dot b1 b2 b3 b1 b2 b3))
 else 0
theorem tr {a1 a2 a3 b1 b2 b3 c1 c2 c3 d1 d2 d3 : Int} (ha : aK 1800 a1 a2 a3 = true) (hb : aK 1800 b1 b2 b3 = true) (hc : aK 10 c1 c2 c3 = true) (hd : aK 10 d1 d2 d3 = true) :
  wrap64 (kV (bt a1 a2 a3 b1 b2 b3) * wrap64 (bt c1 c2 c3 c1 c2 c3 * bt d1 d2 d3 d1 d2 d3)) = ssq (dot a1 a2 a3 b1 b2 b3) * (dot c1 c2 c3 c1 c2 c3 * dot d1 d2 d3 d1 d2 d3) ∧
  wrap64 (kV (bt c1 c2 c3 d1 d2 d3) * wrap64 (bt a1 a2 a3 a1 a2 a3 * bt b1 b2 b3 b1 b2 b3)) = ssq (dot c1 c2 c3 d1 d2 d3) * (dot a1 a2 a3 a1 a2 a3 * dot b1 b2 b3 b1 b2 b3) := by
 rw [cg ha hb (by omega), cg hc hc (by omega), cg hd hd (by omega), cg hc hd (by omega), cg ha ha (by omega), cg hb hb (by omega)]
 have x1 := bU ha hb
 have x2 := bU hc hc
 have x3 := bU hd hd
 have x4 := bU hc hd
 have x5 := bU ha ha
 have x6 := bU hb hb
 generalize dot a1 a2 a3 b1 b2 b3 = p1 at *
 generalize dot c1 c2 c3 c1 c2 c3 = p2 at *
 generalize dot d1 d2 d3 d1 d2 d3 = p3 at *
 generalize dot c1 c2 c3 d1 d2 d3 = p4 at *
 generalize dot a1 a2 a3 a1 a2 a3 = p5 at *
 generalize dot b1 b2 b3 b1 b2 b3 = p6 at *
 have key : ∀ (p q r P Q : Int), (-P ≤ p ∧ p ≤ P) → (-Q ≤ q ∧ q ≤ Q) → (-Q ≤ r ∧ r ≤ Q) → P * P ≤ 9223372036854775807 → P ≤ 9223372036854775807 → Q * Q ≤ 9223372036854775807 → (P * P) * (Q * Q) ≤ 9223372036854775807 →
   wrap64 (kV p * wrap64 (q * r)) = ssq p * (q * r) := by
  intro p q r P Q h1 h2 h3 k1 k2 k3 k4
  have m1 := bv h1 h1
  have m2 := bv h2 h3
  have e : kV p = ssq p := by
   unfold kV ssq
   split
   ·rw [ap (n := -p) (by omega) (by omega)]
    have : -p * p = -(p * p) := by grind
    rw [ap (by omega) (by omega)]
   ·rw [ap (by omega) (by omega)]
  have b : -(P * P) ≤ ssq p ∧ ssq p ≤ P * P := by
   unfold ssq
   have : -p * p = -(p * p) := by grind
   split <;> omega
  have m3 := bv b m2
  rw [e, ap (n := q * r) (by omega) (by omega), ap (by omega) (by omega)]
 exact ⟨key p1 p2 p3 9720000 300 (by omega) (by omega) (by omega) (by omega) (by omega) (by omega) (by omega), key p4 p5 p6 300 9720000 (by omega) (by omega) (by omega) (by omega) (by omega) (by omega) (by omega)⟩
theorem oP {a b : Int} (h : a < b) : eS a b = -1 := by simp [eS, h]
theorem oO {a b : Int} (h : b < a) : eS a b = 1 := by unfold eS; rw [if_neg (by omega), if_pos h]
theorem iy {x : Int} (h : x < 0) : ssq x = -(x * x) := by unfold ssq; rw [if_pos h]; grind
theorem iz {x : Int} (h : 0 ≤ x) : ssq x = x * x := by unfold ssq; rw [if_neg (by omega)]
theorem eX {x : Int} (h : x < 0) : sgn x = -1 := by simp [sgn, h]
theorem eY {x : Int} (h : 0 < x) : sgn x = 1 := by unfold sgn; rw [if_neg (by omega), if_pos h]
theorem jD : sgn 0 = 0 := by simp [sgn]
def lq (x y p q : Int) : Int :=
 if sgn x ≠ sgn y then sgn (wrap64 (sgn x - sgn y)) else if p < q then wrap64 (-sgn x) else if q < p then sgn x else 0
theorem ts {x y L M : Int} (hL : 0 < L) (hM : 0 < M) : lq x y (x * x * L) (y * y * M) = eS (ssq x * L) (ssq y * M) := by
 have sq : ∀ {x L : Int}, x ≠ 0 → 0 < L → 0 < x * x * L := fun {x L} h hL => by
  have h0 : 0 ≤ x * x := by rw [← Int.natAbs_mul_self' x]; exact Int.natCast_nonneg _
  have : x * x ≠ 0 := fun e => by rcases Int.mul_eq_zero.1 e with e | e <;> exact h e
  exact Int.mul_pos (by omega) hL
 have xL : x ≠ 0 → 0 < x * x * L := fun h => sq h hL
 have yM : y ≠ 0 → 0 < y * y * M := fun h => sq h hM
 have nx : -(x * x) * L = -(x * x * L) := by grind
 have ny : -(y * y) * M = -(y * y * M) := by grind
 have w1 : wrap64 (-1) = -1 := ap (by omega) (by omega)
 have w2 : wrap64 (-2) = -2 := ap (by omega) (by omega)
 have w3 : wrap64 1 = 1 := ap (by omega) (by omega)
 have w4 : wrap64 2 = 2 := ap (by omega) (by omega)
 have z0 : ssq 0 = 0 := by simp [ssq]
 unfold lq
 rcases Int.lt_trichotomy x 0 with hx0 | hx0 | hx0 <;> rcases Int.lt_trichotomy y 0 with hy0 | hy0 | hy0
 ·rw [eX hx0, eX hy0, iy hx0, iy hy0, nx, ny, if_neg (by simp), show (-(-1) : Int) = 1 from rfl, w3]
  unfold eS
  split
  ·rw [if_neg (by omega), if_pos (by omega)]
  ·split
   ·rw [if_pos (by omega)]
   ·rw [if_neg (by omega), if_neg (by omega)]
 ·subst hy0
  have := xL (by omega)
  rw [eX hx0, jD, iy hx0, z0, nx, oP (by omega), if_pos (by simp), show (-1 - 0 : Int) = -1 from rfl, w1, eX (by omega)]
 ·have := xL (by omega)
  have := yM (by omega)
  rw [eX hx0, eY hy0, iy hx0, iz (by omega), nx, oP (by omega), if_pos (by simp), show (-1 - 1 : Int) = -2 from rfl, w2, eX (by omega)]
 ·subst hx0
  have := yM (by omega)
  rw [eX hy0, jD, iy hy0, z0, ny, oO (by omega), if_pos (by simp), show (0 - -1 : Int) = 1 from rfl, w3, eY (by omega)]
 ·subst hx0; subst hy0
  simp [eS, ssq, sgn]
 ·subst hx0
  have := yM (by omega)
  rw [eY hy0, jD, iz (x := y) (by omega), z0, oP (by omega), if_pos (by simp), show (0 - 1 : Int) = -1 from rfl, w1, eX (by omega)]
 ·have := xL (by omega)
  have := yM (by omega)
  rw [eY hx0, eX hy0, iy hy0, iz (by omega), ny, oO (by omega), if_pos (by simp), show (1 - -1 : Int) = 2 from rfl, w4, eY (by omega)]
 ·subst hy0
  have := xL (by omega)
  rw [eY hx0, jD, iz (x := x) (by omega), z0, oO (by omega), if_pos (by simp), show (1 - 0 : Int) = 1 from rfl, w3, eY (by omega)]
 ·rw [eY hx0, eY hy0, iz (x := x) (by omega), iz (x := y) (by omega), if_neg (by simp), w1]
  rfl
abbrev D3 := Int × Int × Int
def vA (L : List D3) (i : Nat) : D3 := L.getD i (0, 0, 0)
def fX (v : D3) : Bool := bO v.1 v.2.1 v.2.2
def bg (p q : D3) : Bool := cJ p.1 p.2.1 p.2.2 q.1 q.2.1 q.2.2
def gd (L : List D3) (v : D3) (n : Nat) : Bool := (List.range n).any fun j => bg v (vA L j)
def ji (L : List D3) (v : D3) (k : Nat) : Prop := ∀ j, j < k → bg v (vA L j) = false
def okV (L : List D3) (i : Nat) : Bool := fX (vA L i) && !gd L (vA L i) i
def nH (L : List D3) (k : Nat) : Prop := ∀ j, j < k → okV L j = true
def aN (L : List D3) : Bool := decide (L.length ≤ 6) && (List.range L.length).all (okV L)
theorem pl {L : List D3} {v : D3} {n : Nat} (h : ji L v n) : gd L v n = false := by
 unfold gd
 rw [List.any_eq_false]
 intro j hj
 rw [h j (List.mem_range.1 hj)]
 simp
theorem ng {L : List D3} {v : D3} {n j : Nat} (hj : j < n) (h : bg v (vA L j) = true) : gd L v n = true := by
 unfold gd
 rw [List.any_eq_true]
 exact ⟨j, List.mem_range.2 hj, h⟩
theorem ll {L : List D3} {v : D3} {k : Nat} (h : ji L v k) (h1 : bg v (vA L k) = false) : ji L v (k + 1) := by
 intro j hj
 by_cases e : j = k
 ·rw [e]; exact h1
 ·exact h j (by omega)
theorem pY {L : List D3} {k : Nat} (h : nH L k) (h1 : okV L k = true) : nH L (k + 1) := by
 intro j hj
 by_cases e : j = k
 ·rw [e]; exact h1
 ·exact h j (by omega)
theorem ix {L : List D3} (hl : L.length ≤ 6) (h : nH L L.length) : aN L = true := by
 unfold aN
 rw [Bool.and_eq_true, List.all_eq_true]
 exact ⟨by simpa using hl, fun j hj => h j (List.mem_range.1 hj)⟩
theorem jJ {L : List D3} {k : Nat} (hk : k < L.length) (h : okV L k = false) : aN L = false := by
 unfold aN
 have : (List.range L.length).all (okV L) = false := by
  rw [List.all_eq_false]
  exact ⟨k, List.mem_range.2 hk, by rw [h]; simp⟩
 rw [this, Bool.and_false]
theorem mt {L : List D3} (hl : 6 < L.length) : aN L = false := by
 unfold aN
 rw [show decide (L.length ≤ 6) = false by simp; omega, Bool.false_and]
theorem bq {L : List D3} (h : aN L = true) : L.length ≤ 6 ∧ nH L L.length := by
 unfold aN at h
 rw [Bool.and_eq_true, List.all_eq_true] at h
 exact ⟨by simpa using h.1, fun j hj => h.2 j (List.mem_range.2 hj)⟩
theorem jy {L : List D3} {i : Nat} (h : okV L i = true) : fX (vA L i) = true := by
 unfold okV at h
 rw [Bool.and_eq_true] at h
 exact h.1
theorem eN {x y z : Int} (h : bO x y z = true) : ay x y z = true ∧ aK 1800 x y z = true := by simpa [bO] using h
theorem kH {a1 a2 a3 b1 b2 b3 : Int} (ra : ay a1 a2 a3 = true) (rb : ay b1 b2 b3 = true) : cJ a1 a2 a3 b1 b2 b3 = cJ b1 b2 b3 a1 a2 a3 := by
 obtain ⟨⟨x1, x2, x3⟩, _⟩ := bh.1 ra
 obtain ⟨⟨y1, y2, y3⟩, _⟩ := bh.1 rb
 have e1 := dz x2 x3 y2 y3 (by omega)
 have e2 := dz x3 x1 y3 y1 (by omega)
 have e3 := dz x1 x2 y1 y2 (by omega)
 have f1 := dz y2 y3 x2 x3 (by omega)
 have f2 := dz y3 y1 x3 x1 (by omega)
 have f3 := dz y1 y2 x1 x2 (by omega)
 unfold cJ
 rw [ra, rb, e1.1, e2.1, e3.1, f1.1, f2.1, f3.1, nj]
 congr 2
 unfold eT
 rw [Int.mul_comm b2, Int.mul_comm b3 a2, Int.mul_comm b3 a1, Int.mul_comm b1 a3, Int.mul_comm b1 a2, Int.mul_comm b2 a1]
 congr 1
 apply propext
 constructor <;> rintro ⟨h1, h2, h3⟩ <;> exact ⟨by omega, by omega, by omega⟩
theorem oT {p q : D3} (hp : fX p = true) (hq : fX q = true) : bg p q = bg q p := kH (eN hp).1 (eN hq).1
abbrev St := Int × Int × Int × Int
def stC (s : St) : List Value := [.int .i64 s.1, .int .i64 s.2.1, .int .i64 s.2.2.1, .int .i64 s.2.2.2]
def stA (L : List St) (i : Nat) : St := L.getD i (0, 0, 0, 0)
def idB (n : Int) : Bool := decide (1 ≤ n) && decide (n ≤ 9999)
def upB (L : List St) (i : Nat) : Bool := decide (i = 0) || decide ((stA L (i - 1)).1 < (stA L i).1)
def eqI (a1 a2 a3 b1 b2 b3 : Int) : Bool := decide (a1 = b1 ∧ a2 = b2 ∧ a3 = b3)
def dS (x y z : Int) : Bool := eqI x y z (prI (ay x y z) (gI x y z) x) (prI (ay x y z) (gI x y z) y) (prI (ay x y z) (gI x y z) z)
def kF (p q : St) : Bool := cJ p.2.1 p.2.2.1 p.2.2.2 q.2.1 q.2.2.1 q.2.2.2
def jT (L : List St) (s : St) (k : Nat) : Prop := ∀ j, j < k → kF s (stA L j) = false
def dL (L : List St) (s : St) (n : Nat) : Bool := (List.range n).any fun j => kF s (stA L j)
def dN (L : List St) (i : Nat) : Bool :=
 idB (stA L i).1 && upB L i && (aL (stA L i).2.1 (stA L i).2.2.1 (stA L i).2.2.2 && dS (stA L i).2.1 (stA L i).2.2.1 (stA L i).2.2.2) && !dL L (stA L i) i
def pX (L : List St) (k : Nat) : Prop := ∀ j, j < k → dN L j = true
def aT (L : List St) : Bool := decide (L.length ≤ 12) && (List.range L.length).all (dN L)
theorem mA {L : List St} {s : St} {n : Nat} (h : jT L s n) : dL L s n = false := by
 unfold dL
 rw [List.any_eq_false]
 intro j hj
 rw [h j (List.mem_range.1 hj)]
 simp
theorem nO {L : List St} {s : St} {n j : Nat} (hj : j < n) (h : kF s (stA L j) = true) : dL L s n = true := by
 unfold dL
 rw [List.any_eq_true]
 exact ⟨j, List.mem_range.2 hj, h⟩
theorem nt {L : List St} {s : St} {k : Nat} (h : jT L s k) (h1 : kF s (stA L k) = false) : jT L s (k + 1) := by
 intro j hj
 by_cases e : j = k
 ·rw [e]; exact h1
 ·exact h j (by omega)
theorem oN {L : List St} {k : Nat} (h : pX L k) (h1 : dN L k = true) : pX L (k + 1) := by
 intro j hj
 by_cases e : j = k
 ·rw [e]; exact h1
 ·exact h j (by omega)
theorem oW {L : List St} (hl : L.length ≤ 12) (h : pX L L.length) : aT L = true := by
 unfold aT
 rw [Bool.and_eq_true, List.all_eq_true]
 exact ⟨by simpa using hl, fun j hj => h j (List.mem_range.1 hj)⟩
theorem fJ {L : List St} {k : Nat} (hk : k < L.length) (h : dN L k = false) : aT L = false := by
 unfold aT
 have : (List.range L.length).all (dN L) = false := by
  rw [List.all_eq_false]
  exact ⟨k, List.mem_range.2 hk, by rw [h]; simp⟩
 rw [this, Bool.and_false]
theorem ud {L : List St} (hl : 12 < L.length) : aT L = false := by
 unfold aT
 rw [show decide (L.length ≤ 12) = false by simp; omega, Bool.false_and]
theorem cx {L : List St} (h : aT L = true) : L.length ≤ 12 ∧ pX L L.length := by
 unfold aT at h
 rw [Bool.and_eq_true, List.all_eq_true] at h
 exact ⟨by simpa using h.1, fun j hj => h.2 j (List.mem_range.2 hj)⟩
theorem fj {L : List St} {i : Nat} (h : dN L i = true) : aL (stA L i).2.1 (stA L i).2.2.1 (stA L i).2.2.2 = true := by
 unfold dN at h
 simp only [Bool.and_eq_true] at h
 exact h.1.2.1
theorem bW {x y z : Int} (h : aL x y z = true) : ay x y z = true ∧ aK 10 x y z = true := by simpa [aL] using h
theorem qU {a1 a2 a3 b1 b2 b3 : Int} (ha : aL a1 a2 a3 = true) (hb : aL b1 b2 b3 = true) : cJ a1 a2 a3 b1 b2 b3 = cJ b1 b2 b3 a1 a2 a3 := by
 obtain ⟨ra, wa⟩ := bW ha
 obtain ⟨rb, wb⟩ := bW hb
 obtain ⟨x1, x2, x3⟩ := aW.1 wa
 obtain ⟨y1, y2, y3⟩ := aW.1 wb
 have e1 := dz x2 x3 y2 y3 (by omega)
 have e2 := dz x3 x1 y3 y1 (by omega)
 have e3 := dz x1 x2 y1 y2 (by omega)
 have f1 := dz y2 y3 x2 x3 (by omega)
 have f2 := dz y3 y1 x3 x1 (by omega)
 have f3 := dz y1 y2 x1 x2 (by omega)
 unfold cJ
 rw [ra, rb, e1.1, e2.1, e3.1, f1.1, f2.1, f3.1, nj]
 congr 2
 unfold eT
 rw [Int.mul_comm b2, Int.mul_comm b3 a2, Int.mul_comm b3 a1, Int.mul_comm b1 a3, Int.mul_comm b1 a2, Int.mul_comm b2 a1]
 congr 1
 apply propext
 constructor <;> rintro ⟨h1, h2, h3⟩ <;> exact ⟨by omega, by omega, by omega⟩
theorem uF {a1 a2 a3 b1 b2 b3 : Int} (ha : aL a1 a2 a3 = true) (hb : aL b1 b2 b3 = true) :
  (eqI (crW a2 a3 b2 b3) (crW a3 a1 b3 b1) (crW a1 a2 b1 b2) 0 0 0 && decide (0 < bt a1 a2 a3 b1 b2 b3)) = cJ a1 a2 a3 b1 b2 b3 := by
 unfold cJ
 rw [(bW ha).1, (bW hb).1]
 rfl
def inT (m a b c d : Int) : Bool := inB m a && inB m b && inB m c && inB m d
def fs (a b c d : Int) : Bool := decide (a = 0 ∧ b = 0 ∧ c = 0 ∧ d = 0)
def fT (a b c d : Int) : Int := if a ≠ 0 then a else if b ≠ 0 then b else if c ≠ 0 then c else d
def gT (a b c d : Int) : Int := ((Int.gcd ((Int.gcd a b : Nat) : Int) ((Int.gcd c d : Nat) : Int) : Nat) : Int)
def sT (a b c d : Int) : Int := if fT a b c d < 0 then -gT a b c d else gT a b c d
def aC (a b c d : Int) : Bool := inT 5 a b c d && decide (0 < fT a b c d) && decide (gT a b c d = 1)
def eqT (a b c d a' b' c' d' : Int) : Bool := decide (a = a' ∧ b = b' ∧ c = c' ∧ d = d')
theorem ch {m a b c d : Int} : inT m a b c d = true ↔ (-m ≤ a ∧ a ≤ m) ∧ (-m ≤ b ∧ b ≤ m) ∧ (-m ≤ c ∧ c ≤ m) ∧ (-m ≤ d ∧ d ≤ m) := by
 simp [inT, eV, and_assoc]
theorem pK {m n a b c d : Int} (h : inT m a b c d = true) (hmn : m ≤ n) : inT n a b c d = true := by
 rw [ch] at h ⊢; omega
theorem kZ {a b c d : Int} : fT a b c d = 0 ↔ (a = 0 ∧ b = 0 ∧ c = 0 ∧ d = 0) := by
 unfold fT
 split
 ·omega
 ·split
  ·omega
  ·split <;> omega
theorem vk (a b c d : Int) : fT a b c d = a ∨ fT a b c d = b ∨ fT a b c d = c ∨ fT a b c d = d := by
 unfold fT
 split
 ·exact .inl rfl
 ·split
  ·exact .inr (.inl rfl)
  ·split
   ·exact .inr (.inr (.inl rfl))
   ·exact .inr (.inr (.inr rfl))
theorem sr (a b c d : Int) : 0 ≤ gT a b c d := Int.natCast_nonneg _
theorem vl {a b c d : Int} (h : ¬ (a = 0 ∧ b = 0 ∧ c = 0 ∧ d = 0)) : 0 < gT a b c d := by
 unfold gT
 have h2 : Int.gcd ((Int.gcd a b : Nat) : Int) ((Int.gcd c d : Nat) : Int) ≠ 0 := by
  intro e
  rw [Int.gcd_eq_zero_iff] at e
  have e1 : Int.gcd a b = 0 := by omega
  have e2 : Int.gcd c d = 0 := by omega
  rw [Int.gcd_eq_zero_iff] at e1 e2
  exact h ⟨e1.1, e1.2, e2.1, e2.2⟩
 omega
theorem lI (a b c d : Int) : ((Int.gcd ((Int.gcd ((Int.gcd ((Int.gcd 0 a : Nat) : Int) b : Nat) : Int) c : Nat) : Int) d : Nat) : Int) = gT a b c d := by
 unfold gT
 have h1 : Int.gcd ((Int.gcd 0 a : Nat) : Int) b = Int.gcd a b := by
  rw [Int.gcd_zero_left]
  show Nat.gcd (a.natAbs : Int).natAbs b.natAbs = Nat.gcd a.natAbs b.natAbs
  rw [Int.natAbs_natCast]
 rw [h1]
 show ((Nat.gcd (Nat.gcd (Int.gcd a b) c.natAbs) d.natAbs : Nat) : Int) = ((Nat.gcd (Int.gcd a b) (Nat.gcd c.natAbs d.natAbs) : Nat) : Int)
 rw [Nat.gcd_assoc]
theorem uX {a b c d : Int} (h : ¬ (a = 0 ∧ b = 0 ∧ c = 0 ∧ d = 0)) : sT a b c d ≠ 0 := by
 have := vl h
 unfold sT
 split <;> omega
theorem eZ {f s : Int} (hf : f ≠ 0) (h : f.tdiv s = f) : s = 1 := by
 have hn : f.natAbs / s.natAbs = f.natAbs := by
  have e : (f.tdiv s).natAbs = f.natAbs / s.natAbs := Int.natAbs_tdiv f s
  rw [← e, h]
 have h0 : s.natAbs ≠ 0 := by
  intro e
  rw [e, Nat.div_zero] at hn
  omega
 have h1 : s.natAbs < 2 := by
  rcases Nat.lt_or_ge s.natAbs 2 with h | h
  ·exact h
  ·have := Nat.div_lt_self (n := f.natAbs) (k := s.natAbs) (by omega) h
   omega
 rcases (show s = 1 ∨ s = -1 by omega) with e | e
 ·exact e
 ·rw [e, Int.tdiv_neg, Int.tdiv_one] at h
  omega
theorem rO {m x s : Int} (hx : -m ≤ x ∧ x ≤ m) : -m ≤ x.tdiv s ∧ x.tdiv s ≤ m := by
 have h : (x.tdiv s).natAbs ≤ x.natAbs := by rw [Int.natAbs_tdiv]; exact Nat.div_le_self _ _
 omega
theorem mS {a b c d : Int} (hz : ¬ (a = 0 ∧ b = 0 ∧ c = 0 ∧ d = 0)) :
  eqT a b c d (a.tdiv (sT a b c d)) (b.tdiv (sT a b c d)) (c.tdiv (sT a b c d)) (d.tdiv (sT a b c d)) = (decide (0 < fT a b c d) && decide (gT a b c d = 1)) := by
 have hf : fT a b c d ≠ 0 := fun e => hz (kZ.1 e)
 rw [Bool.eq_iff_iff, Bool.and_eq_true, decide_eq_true_iff, decide_eq_true_iff]
 unfold eqT
 rw [decide_eq_true_iff]
 constructor
 ·rintro ⟨h1, h2, h3, h4⟩
  have hs : sT a b c d = 1 := by
   rcases vk a b c d with e | e | e | e
   ·exact eZ (e ▸ hf) h1.symm
   ·exact eZ (e ▸ hf) h2.symm
   ·exact eZ (e ▸ hf) h3.symm
   ·exact eZ (e ▸ hf) h4.symm
  have hg := sr a b c d
  unfold sT at hs
  split at hs <;> omega
 ·rintro ⟨h1, h2⟩
  have hs : sT a b c d = 1 := by unfold sT; rw [if_neg (by omega), h2]
  rw [hs]
  simp [Int.tdiv_one]
theorem bE {a b c d : Int} : aC a b c d = true ↔ inT 5 a b c d = true ∧ 0 < fT a b c d ∧ gT a b c d = 1 := by
 simp [aC, and_assoc]
theorem ki {a b c d : Int} (h : aC a b c d = true) : ¬ (a = 0 ∧ b = 0 ∧ c = 0 ∧ d = 0) := by
 have := (bE.1 h).2.1
 intro e
 rw [kZ.2 e] at this
 omega
def ofC (a b c d : Int) : Int :=
 if inT 1000 a b c d && !fs a b c d then
  if aC (a.tdiv (sT a b c d)) (b.tdiv (sT a b c d)) (c.tdiv (sT a b c d)) (d.tdiv (sT a b c d)) then 0 else 9
 else 1
def ofP (a b c d x : Int) : Int := if ofC a b c d = 0 then x.tdiv (sT a b c d) else 0
theorem tU {a b c d : Int} (h : (inT 1000 a b c d && !fs a b c d) = false) : ofC a b c d = 1 := by unfold ofC; rw [h]; rfl
theorem fY {a b c d : Int} : fs a b c d = true ↔ (a = 0 ∧ b = 0 ∧ c = 0 ∧ d = 0) := by simp [fs]
theorem sN {a b c d : Int} (h : ofC a b c d = 0) : inT 1000 a b c d = true ∧ ¬ (a = 0 ∧ b = 0 ∧ c = 0 ∧ d = 0) ∧ aC (a.tdiv (sT a b c d)) (b.tdiv (sT a b c d)) (c.tdiv (sT a b c d)) (d.tdiv (sT a b c d)) = true := by
 unfold ofC at h
 split at h
 ·next h1 =>
  rw [Bool.and_eq_true, Bool.not_eq_true'] at h1
  split at h
  ·next h2 => exact ⟨h1.1, fun e => by rw [fY.2 e] at h1; exact absurd h1.2 (by decide), h2⟩
  ·exact absurd h (by decide)
 ·exact absurd h (by decide)
def nT (a b c d : Int) : Int := a * a + b * b + c * c + d * d
theorem sqn (x : Int) : 0 ≤ x * x := by rw [← Int.natAbs_mul_self' x]; exact Int.natCast_nonneg _
theorem sqp {x : Int} (h : x ≠ 0) : 0 < x * x := by
 have := sqn x
 have : x * x ≠ 0 := fun e => by rcases Int.mul_eq_zero.1 e with e | e <;> exact h e
 omega
theorem tN {a b c d : Int} (h : ¬ (a = 0 ∧ b = 0 ∧ c = 0 ∧ d = 0)) : 0 < nT a b c d := by
 have h1 := sqn a
 have h2 := sqn b
 have h3 := sqn c
 have h4 := sqn d
 unfold nT
 by_cases ha : a = 0
 ·by_cases hb : b = 0
  ·by_cases hc : c = 0
   ·have := sqp (x := d) (fun e => h ⟨ha, hb, hc, e⟩); omega
   ·have := sqp hc; omega
  ·have := sqp hb; omega
 ·have := sqp ha; omega
theorem vJ {a b c d : Int} (h : inT 5 a b c d = true) : nT a b c d ≤ 100 := by
 rw [ch] at h
 have h1 := bv h.1 h.1
 have h2 := bv h.2.1 h.2.1
 have h3 := bv h.2.2.1 h.2.2.1
 have h4 := bv h.2.2.2 h.2.2.2
 unfold nT
 omega
def apX (a b c d x y z : Int) : Int := (a * a + b * b - c * c - d * d) * x + 2 * (b * c - a * d) * y + 2 * (b * d + a * c) * z
def apY (a b c d x y z : Int) : Int := 2 * (b * c + a * d) * x + (a * a - b * b + c * c - d * d) * y + 2 * (c * d - a * b) * z
def apZ (a b c d x y z : Int) : Int := 2 * (b * d - a * c) * x + 2 * (c * d + a * b) * y + (a * a - b * b - c * c + d * d) * z
theorem nY (a b c d x y z x' y' z' : Int) :
  dot (apX a b c d x y z) (apY a b c d x y z) (apZ a b c d x y z) (apX a b c d x' y' z') (apY a b c d x' y' z') (apZ a b c d x' y' z') = nT a b c d * nT a b c d * dot x y z x' y' z' := by
 unfold dot apX apY apZ nT
 grind
def coA (s1 s2 s3 s4 t1 t2 t3 t4 : Int) : Int := s1 * t1 - s2 * t2 - s3 * t3 - s4 * t4
def coB (s1 s2 s3 s4 t1 t2 t3 t4 : Int) : Int := s1 * t2 + s2 * t1 + s3 * t4 - s4 * t3
def coC (s1 s2 s3 s4 t1 t2 t3 t4 : Int) : Int := s1 * t3 - s2 * t4 + s3 * t1 + s4 * t2
def coD (s1 s2 s3 s4 t1 t2 t3 t4 : Int) : Int := s1 * t4 + s2 * t3 - s3 * t2 + s4 * t1
theorem uM {a b c d x y z : Int} (ht : inT 5 a b c d = true) (hv : aK 1800 x y z = true) :
  wrap64 (wrap64 (wrap64 (wrap64 (wrap64 (wrap64 (wrap64 (a * a) + wrap64 (b * b)) - wrap64 (c * c)) - wrap64 (d * d)) * x) + wrap64 (wrap64 (2 * wrap64 (wrap64 (b * c) - wrap64 (a * d))) * y)) + wrap64 (wrap64 (2 * wrap64 (wrap64 (b * d) + wrap64 (a * c))) * z)) = apX a b c d x y z := by
 obtain ⟨ha, hb, hc, hd⟩ := ch.1 ht
 have h1 := bv ha ha
 have h2 := bv hb hb
 have h3 := bv hc hc
 have h4 := bv hd hd
 have h5 := bv hb hc
 have h6 := bv ha hd
 have h7 := bv hb hd
 have h8 := bv ha hc
 rw [ap (n := a * a) (by omega) (by omega), ap (n := b * b) (by omega) (by omega), ap (n := c * c) (by omega) (by omega), ap (n := d * d) (by omega) (by omega), ap (n := b * c) (by omega) (by omega), ap (n := a * d) (by omega) (by omega), ap (n := b * d) (by omega) (by omega), ap (n := a * c) (by omega) (by omega),
  ap (n := a * a + b * b) (by omega) (by omega), ap (n := a * a + b * b - c * c) (by omega) (by omega), ap (n := a * a + b * b - c * c - d * d) (by omega) (by omega), ap (n := b * c - a * d) (by omega) (by omega), ap (n := b * d + a * c) (by omega) (by omega), ap (n := 2 * (b * c - a * d)) (by omega) (by omega), ap (n := 2 * (b * d + a * c)) (by omega) (by omega)]
 exact cg (A := 100) (B := 1800) (aW.2 ⟨by omega, by omega, by omega⟩) hv (by omega)
theorem uN {a b c d x y z : Int} (ht : inT 5 a b c d = true) (hv : aK 1800 x y z = true) :
  wrap64 (wrap64 (wrap64 (wrap64 (2 * wrap64 (wrap64 (b * c) + wrap64 (a * d))) * x) + wrap64 (wrap64 (wrap64 (wrap64 (wrap64 (a * a) - wrap64 (b * b)) + wrap64 (c * c)) - wrap64 (d * d)) * y)) + wrap64 (wrap64 (2 * wrap64 (wrap64 (c * d) - wrap64 (a * b))) * z)) = apY a b c d x y z := by
 obtain ⟨ha, hb, hc, hd⟩ := ch.1 ht
 have h1 := bv ha ha
 have h2 := bv hb hb
 have h3 := bv hc hc
 have h4 := bv hd hd
 have h5 := bv hb hc
 have h6 := bv ha hd
 have h7 := bv hc hd
 have h8 := bv ha hb
 rw [ap (n := a * a) (by omega) (by omega), ap (n := b * b) (by omega) (by omega), ap (n := c * c) (by omega) (by omega), ap (n := d * d) (by omega) (by omega), ap (n := b * c) (by omega) (by omega), ap (n := a * d) (by omega) (by omega), ap (n := c * d) (by omega) (by omega), ap (n := a * b) (by omega) (by omega),
  ap (n := a * a - b * b) (by omega) (by omega), ap (n := a * a - b * b + c * c) (by omega) (by omega), ap (n := a * a - b * b + c * c - d * d) (by omega) (by omega), ap (n := b * c + a * d) (by omega) (by omega), ap (n := c * d - a * b) (by omega) (by omega), ap (n := 2 * (b * c + a * d)) (by omega) (by omega), ap (n := 2 * (c * d - a * b)) (by omega) (by omega)]
 exact cg (A := 100) (B := 1800) (aW.2 ⟨by omega, by omega, by omega⟩) hv (by omega)
theorem uO {a b c d x y z : Int} (ht : inT 5 a b c d = true) (hv : aK 1800 x y z = true) :
  wrap64 (wrap64 (wrap64 (wrap64 (2 * wrap64 (wrap64 (b * d) - wrap64 (a * c))) * x) + wrap64 (wrap64 (2 * wrap64 (wrap64 (c * d) + wrap64 (a * b))) * y)) + wrap64 (wrap64 (wrap64 (wrap64 (wrap64 (a * a) - wrap64 (b * b)) - wrap64 (c * c)) + wrap64 (d * d)) * z)) = apZ a b c d x y z := by
 obtain ⟨ha, hb, hc, hd⟩ := ch.1 ht
 have h1 := bv ha ha
 have h2 := bv hb hb
 have h3 := bv hc hc
 have h4 := bv hd hd
 have h5 := bv hb hd
 have h6 := bv ha hc
 have h7 := bv hc hd
 have h8 := bv ha hb
 rw [ap (n := a * a) (by omega) (by omega), ap (n := b * b) (by omega) (by omega), ap (n := c * c) (by omega) (by omega), ap (n := d * d) (by omega) (by omega), ap (n := b * d) (by omega) (by omega), ap (n := a * c) (by omega) (by omega), ap (n := c * d) (by omega) (by omega), ap (n := a * b) (by omega) (by omega),
  ap (n := a * a - b * b) (by omega) (by omega), ap (n := a * a - b * b - c * c) (by omega) (by omega), ap (n := a * a - b * b - c * c + d * d) (by omega) (by omega), ap (n := b * d - a * c) (by omega) (by omega), ap (n := c * d + a * b) (by omega) (by omega), ap (n := 2 * (b * d - a * c)) (by omega) (by omega), ap (n := 2 * (c * d + a * b)) (by omega) (by omega)]
 exact cg (A := 100) (B := 1800) (aW.2 ⟨by omega, by omega, by omega⟩) hv (by omega)
theorem uP {s1 s2 s3 s4 t1 t2 t3 t4 : Int} (hs : inT 5 s1 s2 s3 s4 = true) (ht : inT 5 t1 t2 t3 t4 = true) :
  wrap64 (wrap64 (wrap64 (wrap64 (s1 * t1) - wrap64 (s2 * t2)) - wrap64 (s3 * t3)) - wrap64 (s4 * t4)) = coA s1 s2 s3 s4 t1 t2 t3 t4 ∧ -100 ≤ coA s1 s2 s3 s4 t1 t2 t3 t4 ∧ coA s1 s2 s3 s4 t1 t2 t3 t4 ≤ 100 := by
 obtain ⟨ha, hb, hc, hd⟩ := ch.1 hs
 obtain ⟨ka, kb, kc, kd⟩ := ch.1 ht
 have h1 := bv ha ka
 have h2 := bv hb kb
 have h3 := bv hc kc
 have h4 := bv hd kd
 unfold coA
 rw [ap (n := s1 * t1) (by omega) (by omega), ap (n := s2 * t2) (by omega) (by omega), ap (n := s3 * t3) (by omega) (by omega), ap (n := s4 * t4) (by omega) (by omega), ap (n := s1 * t1 - s2 * t2) (by omega) (by omega), ap (n := s1 * t1 - s2 * t2 - s3 * t3) (by omega) (by omega), ap (by omega) (by omega)]
 omega
theorem uQ {s1 s2 s3 s4 t1 t2 t3 t4 : Int} (hs : inT 5 s1 s2 s3 s4 = true) (ht : inT 5 t1 t2 t3 t4 = true) :
  wrap64 (wrap64 (wrap64 (wrap64 (s1 * t2) + wrap64 (s2 * t1)) + wrap64 (s3 * t4)) - wrap64 (s4 * t3)) = coB s1 s2 s3 s4 t1 t2 t3 t4 ∧ -100 ≤ coB s1 s2 s3 s4 t1 t2 t3 t4 ∧ coB s1 s2 s3 s4 t1 t2 t3 t4 ≤ 100 := by
 obtain ⟨ha, hb, hc, hd⟩ := ch.1 hs
 obtain ⟨ka, kb, kc, kd⟩ := ch.1 ht
 have h1 := bv ha kb
 have h2 := bv hb ka
 have h3 := bv hc kd
 have h4 := bv hd kc
 unfold coB
 rw [ap (n := s1 * t2) (by omega) (by omega), ap (n := s2 * t1) (by omega) (by omega), ap (n := s3 * t4) (by omega) (by omega), ap (n := s4 * t3) (by omega) (by omega), ap (n := s1 * t2 + s2 * t1) (by omega) (by omega), ap (n := s1 * t2 + s2 * t1 + s3 * t4) (by omega) (by omega), ap (by omega) (by omega)]
 omega
theorem uR {s1 s2 s3 s4 t1 t2 t3 t4 : Int} (hs : inT 5 s1 s2 s3 s4 = true) (ht : inT 5 t1 t2 t3 t4 = true) :
  wrap64 (wrap64 (wrap64 (wrap64 (s1 * t3) - wrap64 (s2 * t4)) + wrap64 (s3 * t1)) + wrap64 (s4 * t2)) = coC s1 s2 s3 s4 t1 t2 t3 t4 ∧ -100 ≤ coC s1 s2 s3 s4 t1 t2 t3 t4 ∧ coC s1 s2 s3 s4 t1 t2 t3 t4 ≤ 100 := by
 obtain ⟨ha, hb, hc, hd⟩ := ch.1 hs
 obtain ⟨ka, kb, kc, kd⟩ := ch.1 ht
 have h1 := bv ha kc
 have h2 := bv hb kd
 have h3 := bv hc ka
 have h4 := bv hd kb
 unfold coC
 rw [ap (n := s1 * t3) (by omega) (by omega), ap (n := s2 * t4) (by omega) (by omega), ap (n := s3 * t1) (by omega) (by omega), ap (n := s4 * t2) (by omega) (by omega), ap (n := s1 * t3 - s2 * t4) (by omega) (by omega), ap (n := s1 * t3 - s2 * t4 + s3 * t1) (by omega) (by omega), ap (by omega) (by omega)]
 omega
theorem uS {s1 s2 s3 s4 t1 t2 t3 t4 : Int} (hs : inT 5 s1 s2 s3 s4 = true) (ht : inT 5 t1 t2 t3 t4 = true) :
  wrap64 (wrap64 (wrap64 (wrap64 (s1 * t4) + wrap64 (s2 * t3)) - wrap64 (s3 * t2)) + wrap64 (s4 * t1)) = coD s1 s2 s3 s4 t1 t2 t3 t4 ∧ -100 ≤ coD s1 s2 s3 s4 t1 t2 t3 t4 ∧ coD s1 s2 s3 s4 t1 t2 t3 t4 ≤ 100 := by
 obtain ⟨ha, hb, hc, hd⟩ := ch.1 hs
 obtain ⟨ka, kb, kc, kd⟩ := ch.1 ht
 have h1 := bv ha kd
 have h2 := bv hb kc
 have h3 := bv hc kb
 have h4 := bv hd ka
 unfold coD
 rw [ap (n := s1 * t4) (by omega) (by omega), ap (n := s2 * t3) (by omega) (by omega), ap (n := s3 * t2) (by omega) (by omega), ap (n := s4 * t1) (by omega) (by omega), ap (n := s1 * t4 + s2 * t3) (by omega) (by omega), ap (n := s1 * t4 + s2 * t3 - s3 * t2) (by omega) (by omega), ap (by omega) (by omega)]
 omega
def apR (a b c d x y z : Int) : Bool := aC a b c d && bO x y z
def apI (r : Bool) (v : Int) : Int := if r then v else 0
def coR (s1 s2 s3 s4 t1 t2 t3 t4 : Int) : Bool := aC s1 s2 s3 s4 && aC t1 t2 t3 t4
def coK (s1 s2 s3 s4 t1 t2 t3 t4 : Int) : Int :=
 if coR s1 s2 s3 s4 t1 t2 t3 t4 then ofC (coA s1 s2 s3 s4 t1 t2 t3 t4) (coB s1 s2 s3 s4 t1 t2 t3 t4) (coC s1 s2 s3 s4 t1 t2 t3 t4) (coD s1 s2 s3 s4 t1 t2 t3 t4) else 1
def coP (s1 s2 s3 s4 t1 t2 t3 t4 v : Int) : Int :=
 if coR s1 s2 s3 s4 t1 t2 t3 t4 then ofP (coA s1 s2 s3 s4 t1 t2 t3 t4) (coB s1 s2 s3 s4 t1 t2 t3 t4) (coC s1 s2 s3 s4 t1 t2 t3 t4) (coD s1 s2 s3 s4 t1 t2 t3 t4) v else 0
theorem tj {x m : Int} (hm : 0 ≤ m) (h : x * x ≤ m * m) : -m ≤ x ∧ x ≤ m := by
 have h1 : x.natAbs * x.natAbs ≤ m.natAbs * m.natAbs := by
  have e1 := Int.natAbs_mul_self' x
  have e2 := Int.natAbs_mul_self' m
  omega
 have := Nat.mul_self_le_mul_self_iff.1 h1
 omega
theorem tk {a b c d x y z D M : Int} (ht : aC a b c d = true) (hD : dot x y z x y z ≤ D) (hM : 0 ≤ M) (h : 10000 * D ≤ M * M) : aK M (apX a b c d x y z) (apY a b c d x y z) (apZ a b c d x y z) = true := by
 have hn := vJ (bE.1 ht).1
 have hp := tN (ki ht)
 have hn2 := bv (A := 100) (B := 100) (a := nT a b c d) (b := nT a b c d) (by omega) (by omega)
 have hd := nY a b c d x y z x y z
 have h0 : 0 ≤ dot x y z x y z := by have h1 := sqn x; have h2 := sqn y; have h3 := sqn z; unfold dot; omega
 have hm := bv (A := 10000) (B := D) (a := nT a b c d * nT a b c d) (b := dot x y z x y z) (by omega) (by omega)
 have s1 := sqn (apX a b c d x y z)
 have s2 := sqn (apY a b c d x y z)
 have s3 := sqn (apZ a b c d x y z)
 have hdd : dot (apX a b c d x y z) (apY a b c d x y z) (apZ a b c d x y z) (apX a b c d x y z) (apY a b c d x y z) (apZ a b c d x y z) = apX a b c d x y z * apX a b c d x y z + apY a b c d x y z * apY a b c d x y z + apZ a b c d x y z * apZ a b c d x y z := rfl
 rw [aW]
 exact ⟨tj hM (by omega), tj hM (by omega), tj hM (by omega)⟩
theorem qV (p q : D3) : bg p q = bg q p := by
 unfold bg
 by_cases hp : ay p.1 p.2.1 p.2.2 = true
 ·by_cases hq : ay q.1 q.2.1 q.2.2 = true
  ·exact kH hp hq
  ·rw [Bool.not_eq_true] at hq
   unfold cJ
   rw [hq]
   simp
 ·rw [Bool.not_eq_true] at hp
  unfold cJ
  rw [hp]
  simp
theorem qg {a1 a2 a3 b1 b2 b3 : Int} (ha : aK 1000000 a1 a2 a3 = true) (hb : aK 1000000 b1 b2 b3 = true) :
  (decide (crW a2 a3 b2 b3 = 0 ∧ crW a3 a1 b3 b1 = 0 ∧ crW a1 a2 b1 b2 = 0) && decide (0 < bt a1 a2 a3 b1 b2 b3)) = cJ a1 a2 a3 b1 b2 b3 := by
 unfold cJ ay
 rw [ha, hb]
 by_cases za : a1 = 0 ∧ a2 = 0 ∧ a3 = 0
 ·obtain ⟨rfl, rfl, rfl⟩ := za
  have : bt 0 0 0 b1 b2 b3 = 0 := by have z : wrap64 0 = 0 := ap (by omega) (by omega); unfold bt; simp [z]
  rw [this]
  simp [eT]
 ·by_cases zb : b1 = 0 ∧ b2 = 0 ∧ b3 = 0
  ·obtain ⟨rfl, rfl, rfl⟩ := zb
   have : bt a1 a2 a3 0 0 0 = 0 := by have z : wrap64 0 = 0 := ap (by omega) (by omega); unfold bt; simp [z]
   rw [this]
   simp [eT]
  ·have h1 : eT a1 a2 a3 = false := by unfold eT; simp only [decide_eq_false_iff_not]; exact za
   have h2 : eT b1 b2 b3 = false := by unfold eT; simp only [decide_eq_false_iff_not]; exact zb
   rw [h1, h2]
   rfl
theorem kI {x y z : Int} (h : aL x y z = true) : bO x y z = true := by
 obtain ⟨h1, h2⟩ := bW h
 unfold bO
 rw [h1, Bool.true_and, aW]
 rw [aW] at h2
 omega
def apD (a b c d : Int) (v : D3) : D3 := (apX a b c d v.1 v.2.1 v.2.2, apY a b c d v.1 v.2.1 v.2.2, apZ a b c d v.1 v.2.1 v.2.2)
theorem lk {a b c d : Int} {v : D3} (ht : aC a b c d = true) (hv : aL v.1 v.2.1 v.2.2 = true) : aK 1000000 (apD a b c d v).1 (apD a b c d v).2.1 (apD a b c d v).2.2 = true := by
 refine tk (D := 300) ht ?_ (by omega) (by omega)
 have h := bU (bW hv).2 (bW hv).2
 omega
def de (L : List St) (a b c d : Int) (v : D3) : Nat → Int
 | 0 => 0
 | k + 1 => if bg v (apD a b c d (stA L k).2) = true then (stA L k).1 else de L a b c d v k
def it (L : List St) (a b c d : Int) (S : List D3) : Bool := aT L && aC a b c d && aN S
def aV (L : List St) (a b c d : Int) (S : List D3) : List Int := if it L a b c d S = true then S.map (fun v => de L a b c d v L.length) else []
theorem sF {L : List St} {a b c d : Int} {S : List D3} (h : aT L = false) : aV L a b c d S = [] := by unfold aV it; rw [h]; rfl
theorem sG {L : List St} {a b c d : Int} {S : List D3} (h : aC a b c d = false) : aV L a b c d S = [] := by unfold aV it; rw [h, Bool.and_false]; rfl
theorem sH {L : List St} {a b c d : Int} {S : List D3} (h : aN S = false) : aV L a b c d S = [] := by unfold aV it; rw [h, Bool.and_false]; rfl
theorem jW {L : List St} {a b c d : Int} {S : List D3} (h1 : aT L = true) (h2 : aC a b c d = true) (h3 : aN S = true) : aV L a b c d S = S.map (fun v => de L a b c d v L.length) := by unfold aV it; rw [h1, h2, h3]; rfl
theorem nE (L : List St) (a b c d : Int) (S : List D3) : (aV L a b c d S).length ≤ 6 := by
 unfold aV
 split
 ·rename_i h
  unfold it at h
  rw [Bool.and_eq_true] at h
  rw [List.length_map]
  exact (bq h.2).1
 ·simp
end
section
open Go.RowKit
theorem yz {p : Prop} (h : p) : Hid p := h
theorem yy {p : Prop} (h : Hid p) : p := h
end
section
open Go.RowKit
theorem an (w : World) (a : Obj) : Below w.heap.size w (w.alloc a) := (Below.refl _ _).alloc (Nat.le_refl _) _
theorem aM (w : World) (a b : Obj) : Below w.heap.size w ((w.alloc a).alloc b) := (an w a).alloc (by simp) _
theorem dp (w : World) (a b c : Obj) : Below w.heap.size w (((w.alloc a).alloc b).alloc c) := (aM w a b).alloc (by simp; omega) _
theorem aj {w w1 w2 : World} (h : Below w.heap.size w w1) (h2 : Below w1.heap.size w1 w2) : Below w.heap.size w w2 := h.trans (h2.mono h.size)
theorem nK (x y z : Int) (w : World) :
  Calls Tryz.prog 111 #[.agg #[.int .i64 x, .int .i64 y, .int .i64 z]] w fun e w' => e = .returned (.agg #[.int .i64 x, .int .i64 y, .int .i64 z]) ∧ Below w.heap.size w w' := by
 go_enter Tryz.func111, Tryz.ntmps111
 go_wp2
 exact bodyPost_ret (v := .agg #[.int .i64 x, .int .i64 y, .int .i64 z]) (by simp [results, Tryz.results111, go_sem]) rfl ⟨rfl, aM _ _ _⟩
theorem km (a1 a2 a3 b1 b2 b3 : Int) (w : World) :
  Calls Tryz.prog 110 #[.agg #[.int .i64 a1, .int .i64 a2, .int .i64 a3], .agg #[.int .i64 b1, .int .i64 b2, .int .i64 b3]] w fun e w' => e = .returned (.int .i64 (bt a1 a2 a3 b1 b2 b3)) ∧ Below w.heap.size w w' := by
 go_enter Tryz.func110, Tryz.ntmps110
 go_wp2
 go_ret
 exact ⟨rfl, aM _ _ _⟩
theorem eF (a1 a2 a3 b1 b2 b3 : Int) (w : World) :
  Calls Tryz.prog 99 #[.agg #[.int .i64 a1, .int .i64 a2, .int .i64 a3], .agg #[.int .i64 b1, .int .i64 b2, .int .i64 b3]] w fun e w' => e = .returned (.int .i64 (bt a1 a2 a3 b1 b2 b3)) ∧ Below w.heap.size w w' := by
 go_enter Tryz.func99, Tryz.ntmps99
 go_wp2
 go_ret
 exact ⟨rfl, aM _ _ _⟩
theorem dy (n lo hi : Int) (w : World) :
  Calls Tryz.prog 48 #[.int .i64 n, .int .i64 lo, .int .i64 hi] w fun e w' => e = .returned (.bool (decide (lo ≤ n) && decide (n ≤ hi))) ∧ w' = w := by
 by_cases h : lo ≤ n
 ·go_enter Tryz.func48, Tryz.ntmps48
  go_wp2
  go_ret
  exact ⟨by simp [h], rfl⟩
 ·go_enter Tryz.func48, Tryz.ntmps48
  go_wp2
  go_ret
  exact ⟨by simp; omega, rfl⟩
theorem jz {m x : Int} (h : ¬ (-m ≤ x ∧ x ≤ m)) : inB m x = false := by simpa [inB] using h
theorem jb (m x y z : Int) (w : World) (hm0 : 0 ≤ m) (hm : m ≤ 1000000) :
  Calls Tryz.prog 93 #[.agg #[.int .i64 x, .int .i64 y, .int .i64 z], .int .i64 m] w fun e w' => e = .returned (.bool (aK m x y z)) ∧ Below w.heap.size w w' := by
 have i0 : ∀ w : World, (Instr.index 136 (.agg #[.int .i64 x, .int .i64 y, .int .i64 z]) (.int .i64 0)).run Tryz.prog w = .ok (.int .i64 x) w := fun _ => by kernel_rfl
 have i1 : ∀ w : World, (Instr.index 136 (.agg #[.int .i64 x, .int .i64 y, .int .i64 z]) (.int .i64 1)).run Tryz.prog w = .ok (.int .i64 y) w := fun _ => by kernel_rfl
 have i2 : ∀ w : World, (Instr.index 136 (.agg #[.int .i64 x, .int .i64 y, .int .i64 z]) (.int .i64 2)).run Tryz.prog w = .ok (.int .i64 z) w := fun _ => by kernel_rfl
 have hwr : wrap64 (-m) = -m := ap (by omega) (by omega)
 go_enter Tryz.func93, Tryz.ntmps93
 go_wp2_with fail
 refine (nK x y z _).mono ?_
 rintro e w1 ⟨rfl, hB1⟩
 have hB : Below w.heap.size w w1 := aj (an _ _) hB1
 clear hB1
 go_wp2_with fail
 go_loop [9] (fun i => ∃ k : Nat, k ≤ 3 ∧ i = .int .i64 k ∧ Hid (0 < k → inB m x = true) ∧ Hid (1 < k → inB m y = true) ∧ Hid (2 < k → inB m z = true)) (fun i => 3 - (intOf i).toNat)
 case atStart => exact ⟨0, Nat.zero_le _, rfl, yz (by omega), yz (by omega), yz (by omega)⟩
 case round =>
  obtain ⟨k, hk, rfl, hx, hy, hz⟩ := hrel
  have hk4 : k = 0 ∨ k = 1 ∨ k = 2 ∨ k = 3 := by omega
  rcases hk4 with rfl | rfl | rfl | rfl
  ·by_cases q1 : -m ≤ x
   ·by_cases q2 : x ≤ m
    ·have HI := yz (eV.2 ⟨q1, q2⟩)
     go_wp2
     go_round
     case rel => exact ⟨1, by omega, rfl, yz (fun _ => yy HI), yz (by omega), yz (by omega)⟩
     case measure => simp [intOf]
    ·have HO := yz (jz (m := m) (x := x) (fun h => q2 h.2))
     go_wp2
     go_ret
     exact ⟨by simp [aK, yy HO], hB⟩
   ·have HO := yz (jz (m := m) (x := x) (fun h => q1 h.1))
    go_wp2
    go_ret
    exact ⟨by simp [aK, yy HO], hB⟩
  ·by_cases q1 : -m ≤ y
   ·by_cases q2 : y ≤ m
    ·have HI := yz (eV.2 ⟨q1, q2⟩)
     go_wp2
     go_round
     case rel => exact ⟨2, by omega, rfl, yz (fun _ => yy hx (by omega)), yz (fun _ => yy HI), yz (by omega)⟩
     case measure => simp [intOf]
    ·have HO := yz (jz (m := m) (x := y) (fun h => q2 h.2))
     go_wp2
     go_ret
     exact ⟨by simp [aK, yy HO], hB⟩
   ·have HO := yz (jz (m := m) (x := y) (fun h => q1 h.1))
    go_wp2
    go_ret
    exact ⟨by simp [aK, yy HO], hB⟩
  ·by_cases q1 : -m ≤ z
   ·by_cases q2 : z ≤ m
    ·have HI := yz (eV.2 ⟨q1, q2⟩)
     go_wp2
     go_round
     case rel => exact ⟨3, by omega, rfl, yz (fun _ => yy hx (by omega)), yz (fun _ => yy hy (by omega)), yz (fun _ => yy HI)⟩
     case measure => simp [intOf]
    ·have HO := yz (jz (m := m) (x := z) (fun h => q2 h.2))
     go_wp2
     go_ret
     exact ⟨by simp [aK, yy HO], hB⟩
   ·have HO := yz (jz (m := m) (x := z) (fun h => q1 h.1))
    go_wp2
    go_ret
    exact ⟨by simp [aK, yy HO], hB⟩
  ·go_wp2
   go_ret
   exact ⟨by simp [aK, yy hx (by omega), yy hy (by omega), yy hz (by omega)], hB⟩
def eqB (a1 a2 a3 b1 b2 b3 : Int) : Bool := decide (a1 = b1 ∧ a2 = b2 ∧ a3 = b3)
theorem nk (a1 a2 a3 b1 b2 b3 : Int) (w : World) : (Op.equalIn 10000 78 (.agg #[.int .i64 a1, .int .i64 a2, .int .i64 a3]) (.agg #[.int .i64 b1, .int .i64 b2, .int .i64 b3])).run Tryz.prog w = .ok (eqB a1 a2 a3 b1 b2 b3) w := by
 have h := run_equalIn_struct (P := Tryz.prog) w 9999 78 #[.int .i64 a1, .int .i64 a2, .int .i64 a3] #[.int .i64 b1, .int .i64 b2, .int .i64 b3] (by kernel_rfl) (by kernel_rfl)
 have hf : (Tryz.prog.fieldsOf 78).toList = (Tryz.prog.fieldsOf 78).toList := rfl
 refine h.trans ?_
 by_cases h1 : a1 = b1
 ·by_cases h2 : a2 = b2
  ·by_cases h3 : a3 = b3
   ·simp [go_sem, eqB, h1, h2, h3]
   ·simp [go_sem, eqB, h1, h2, h3]
  ·simp [go_sem, eqB, h1, h2]
 ·simp [go_sem, eqB, h1]
theorem iu (a1 a2 a3 b1 b2 b3 : Int) (w : World) : (binOp .neq 78 (.agg #[.int .i64 a1, .int .i64 a2, .int .i64 a3]) (.agg #[.int .i64 b1, .int .i64 b2, .int .i64 b3])).run Tryz.prog w = .ok (.bool (!eqB a1 a2 a3 b1 b2 b3)) w := by
 rw [run_neq_struct, nk]; rfl
theorem oq (a1 a2 a3 b1 b2 b3 : Int) (w : World) : (binOp .eql 78 (.agg #[.int .i64 a1, .int .i64 a2, .int .i64 a3]) (.agg #[.int .i64 b1, .int .i64 b2, .int .i64 b3])).run Tryz.prog w = .ok (.bool (eqB a1 a2 a3 b1 b2 b3)) w := by
 rw [run_eql_struct, nk]; rfl
theorem bF (x y z : Int) (w : World) :
  Calls Tryz.prog 92 #[.agg #[.int .i64 x, .int .i64 y, .int .i64 z]] w fun e w' => e = .returned (.bool (ay x y z)) ∧ Below w.heap.size w w' := by
 have hn := fun w => iu x y z 0 0 0 w
 cases hz : eqB x y z 0 0 0
 ·rw [hz] at hn
  have HR : Hid (ay x y z = aK 1000000 x y z) := yz (by unfold ay; rw [show eT x y z = false from hz]; simp)
  go_enter Tryz.func92, Tryz.ntmps92
  go_wp2_with fail
  refine (jb 1000000 x y z _ (by omega) (by omega)).mono ?_
  rintro e w1 ⟨rfl, hB1⟩
  have hB : Below w.heap.size w w1 := aj (an _ _) hB1
  clear hB1
  go_wp2_with fail
  go_ret
  exact ⟨by rw [yy HR]; rfl, hB⟩
 ·rw [hz] at hn
  have HR : Hid (ay x y z = false) := yz (by unfold ay; rw [show eT x y z = true from hz]; simp)
  go_enter Tryz.func92, Tryz.ntmps92
  go_wp2_with fail
  go_ret
  exact ⟨by rw [yy HR]; rfl, an _ _⟩
theorem isB (m x : Int) : (decide (-m ≤ x) && decide (x ≤ m)) = inB m x := by unfold inB; rw [Bool.decide_and]
theorem dU (m x y z : Int) (w : World) (hm0 : 0 ≤ m) (hm : m ≤ 1000000) :
  Calls Tryz.prog 82 #[.agg #[.int .i64 x, .int .i64 y, .int .i64 z], .int .i64 m] w fun e w' => e = .returned (.bool (aK m x y z)) ∧ Below w.heap.size w w' := by
 have hwr : wrap64 (-m) = -m := ap (by omega) (by omega)
 go_enter Tryz.func82, Tryz.ntmps82
 go_wp2_with fail
 refine (dy x (-m) m _).mono ?_
 rintro e w1 ⟨rfl, rfl⟩
 rw [isB]
 cases hx : inB m x
 ·go_wp2_with fail
  go_ret
  exact ⟨by simp [aK, hx], an _ _⟩
 ·go_wp2_with fail
  refine (dy y (-m) m _).mono ?_
  rintro e w1 ⟨rfl, rfl⟩
  rw [isB]
  cases hy : inB m y
  ·go_wp2_with fail
   go_ret
   exact ⟨by simp [aK, hy], an _ _⟩
  ·go_wp2_with fail
   refine (dy z (-m) m _).mono ?_
   rintro e w1 ⟨rfl, rfl⟩
   rw [isB]
   go_wp2_with fail
   go_ret
   exact ⟨by simp [aK, hx, hy], an _ _⟩
theorem cy (x y z : Int) (w : World) :
  Calls Tryz.prog 58 #[.agg #[.int .i64 x, .int .i64 y, .int .i64 z]] w fun e w' => e = .returned (.bool (ay x y z)) ∧ Below w.heap.size w w' := by
 have hn := fun w => iu x y z 0 0 0 w
 go_enter Tryz.func58, Tryz.ntmps58
 go_wp2_with fail
 refine (dU 1000000 x y z _ (by omega) (by omega)).mono ?_
 rintro e w1 ⟨rfl, hB1⟩
 have hB : Below w.heap.size w w1 := aj (an _ _) hB1
 have hc : ∀ i : Nat, w1.cell? ⟨w.heap.size, i, none⟩ = _ := fun i => hB1.cell (p := ⟨w.heap.size, i, none⟩) (by simp)
 have c0 := hc 0
 have c1 := hc 1
 have c2 := hc 2
 simp at c0 c1 c2
 clear hB1 hc
 cases hx : aK 1000000 x y z
 ·go_wp2_with fail
  go_ret
  exact ⟨by simp [ay, hx], hB⟩
 ·go_wp2_with fail
  go_ret
  exact ⟨by simp [ay, hx]; rfl, hB⟩
end
section
open Go.RowKit Go.Extern.Stop Go.Stop Go.Extern
theorem tJ (v : Value) (w : World) : (Extern.ReflectliteType.typeOf #[.iface 175 v]).run Tryz.prog w = .ok (.iface 149 (.agg #[.pointer (some ⟨1, 175, none⟩)])) w := by kernel_rfl
theorem oB (w : World) : (callFunc 159 #[.agg #[.pointer (some ⟨1, 175, none⟩)]]).run Tryz.prog w = .ok (Next.value (.bool true)) w :=
 (@run_callFunc_extern Tryz.prog 159 _ (Extern.ReflectliteType.method fun t => do Extern.Rtype.noPackHeld "Comparable" t; pure (.bool (← typeInfo t).comparable)) Tryz.func159 (by kernel_rfl) (by kernel_rfl) (by kernel_rfl) (by kernel_rfl) _ w).trans (by kernel_rfl)
theorem iU (v : Value) (w : World) : (Go.method 313 149 v "Comparable").run Tryz.prog w = .ok (159, v) w := by kernel_rfl
theorem vo : (Tryz.prog.info? 175).map (·.comparable) = some true := by kernel_rfl
theorem vp : (Tryz.prog.info? 201).map (·.size) = some 1 := by kernel_rfl
theorem vL (v : Value) (xT : TypeId) (w : World) : (Instr.typeAssert (.iface 133 v) xT 151 true).run Tryz.prog w = .ok (.tuple #[.nilIface, .bool false]) w := run_typeAssert_lacksB Tryz.underlying151 (by kernel_rfl) (by kernel_rfl) v xT w
theorem qH (v : Value) (xT : TypeId) (w : World) : (Instr.typeAssert (.iface 133 v) xT 154 true).run Tryz.prog w = .ok (.tuple #[.iface 133 v, .bool true]) w := run_typeAssert_hasB Tryz.underlying154 (by kernel_rfl) v xT w
theorem oJ (v : Value) (w : World) : (Go.method 313 133 v "Unwrap").run Tryz.prog w = .ok (155, v) w := by kernel_rfl
def aY (b : Addr) (w : World) : Prop := w.cell? ⟨0, 0, none⟩ = some (.iface 175 (.pointer (some b)))
theorem aY.lt {b : Addr} {w : World} (h : aY b w) : 0 < w.heap.size := World.block_lt_of_cell? w _ h
theorem aY.kept {b : Addr} {w w' : World} (h : aY b w) (hB : Below w.heap.size w w') : aY b w' := by
 unfold aY
 rw [hB.cell (p := ⟨0, 0, none⟩) h.lt]
 exact h
theorem vq (b : Addr) (w : World) :
  Calls Tryz.prog 83 #[.nilIface, .iface 175 (.pointer (some b))] w fun e w' => e = .returned (.bool false) ∧ w' = w := by
 have hn := run_eql_iface_nil_left (P := Tryz.prog) w 175 (.pointer (some b)) Tryz.underlying108
 go_enter Tryz.func83, Tryz.ntmps83
 go_wp2
 go_ret
 exact ⟨rfl, rfl⟩
theorem rk (why : ByteArray) (b : Addr) (w : World) (h : aY b w) :
  Calls Tryz.prog 155 #[.agg #[.string why]] w fun e w' => e = .returned (.iface 175 (.pointer (some b))) ∧ Below w.heap.size w w' := by
 have h' : aY b (w.alloc (.cells #[.string why] 133)) := h.kept (an _ _)
 unfold aY at h'
 go_enter Tryz.func155, Tryz.ntmps155
 go_wp2
 go_ret
 exact ⟨rfl, an _ _⟩
theorem tK (why : ByteArray) (b : Addr) (w : World) (h : aY b w) :
  Calls Tryz.prog 83 #[.iface 133 (.agg #[.string why]), .iface 175 (.pointer (some b))] w fun e w' => e = .returned (.bool true) ∧ Below w.heap.size w w' := by
 obtain ⟨i, hi, hcmp⟩ := Option.map_eq_some_iff.1 vo
 obtain ⟨j, hj, hjs⟩ := Option.map_eq_some_iff.1 vp
 have h8 := @run_callFunc_extern Tryz.prog 107 _ Extern.ReflectliteType.typeOf Tryz.func107 (by kernel_rfl) (by kernel_rfl) (by kernel_rfl) (by kernel_rfl)
 have tT := tJ
 have cT := oB
 have mR := iU
 have nW := vL
 have uW := qH
 have mU := oJ
 have heq := fun w => run_eql_iface_ptr_same (P := Tryz.prog) w b Tryz.underlying108 Tryz.underlying175 hi hcmp hj
 have hty := fun w => run_eql_iface_types (P := Tryz.prog) 133 175 (.agg #[.string why]) (.pointer (some b)) Tryz.underlying108 (by decide) w
 have HE := yz h
 clear h
 go_enter Tryz.func83, Tryz.ntmps83
 go_wp2
 refine wp_loop_rounds 2 ?_
 rw [rounds_succ]
 go_wp2_with (go_at_call 155; refine (rk why b _ (yy HE)).mono ?_; rintro e w1 ⟨rfl, hx⟩)
 rw [rounds_succ]
 go_wp2
 go_ret
 exact ⟨rfl, hx⟩
end
section
open Go.RowKit Go.Sort
def SAt (w : World) (b : Nat) (vs : List Value) : Prop := ∀ i v, vs[i]? = some v → w.cell? ⟨b, i, none⟩ = some v
theorem SAt.lt {w : World} {b : Nat} {v : Value} {vs : List Value} (h : SAt w b (v :: vs)) : b < w.heap.size := World.block_lt_of_cell? w _ (h 0 v rfl)
theorem SAt.kept {w w' : World} {b : Nat} {v : Value} {vs : List Value} (h : SAt w b (v :: vs)) (hB : Below w.heap.size w w') : SAt w' b (v :: vs) := fun i u hu => by
 rw [hB.cell (p := ⟨b, i, none⟩) h.lt]; exact h i u hu
theorem SAt.c3 {w : World} {b : Nat} {x y z : Value} (h : SAt w b [x, y, z]) : w.cell? ⟨b, 0, none⟩ = some x ∧ w.cell? ⟨b, 1, none⟩ = some y ∧ w.cell? ⟨b, 2, none⟩ = some z := ⟨h 0 x rfl, h 1 y rfl, h 2 z rfl⟩
theorem SAt.c5 {w : World} {b : Nat} {x y z u v : Value} (h : SAt w b [x, y, z, u, v]) : w.cell? ⟨b, 0, none⟩ = some x ∧ w.cell? ⟨b, 1, none⟩ = some y ∧ w.cell? ⟨b, 2, none⟩ = some z ∧ w.cell? ⟨b, 3, none⟩ = some u ∧ w.cell? ⟨b, 4, none⟩ = some v := ⟨h 0 x rfl, h 1 y rfl, h 2 z rfl, h 3 u rfl, h 4 v rfl⟩
end
section
open Go.RowKit
end
end Go.Proofs.YtgiodlllokdcdaaGreatDoor
