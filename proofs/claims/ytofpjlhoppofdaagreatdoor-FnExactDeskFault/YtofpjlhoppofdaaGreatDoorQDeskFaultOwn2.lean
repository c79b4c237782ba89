/- Several texts in one: TurnMath, TurnMath2, TurnA, TurnB, TurnC, TurnF, SeenA, SkyI, VecJ, VecK, PairA, Place, PairB, PairC, PairD, PairE, PairF, VecL, PairM, PairN. -/
import Derived.Lib.QuietBelow
import Derived.Deep.QuietTactic
import Derived.BigQuiet
import Derived.BigRegion
import Derived.Deep.RegionHeld
import Derived.Deep.DeepCutAuto
import Derived.OwnWalk
import Derived.Laws.OwnMore
import Derived.Test.YtofpjlhoppofdaaGreatDoorQDeskFaultOwn1
namespace Go.Proofs.YtofpjlhoppofdaaGreatDoor
open Go.RowKit
set_option linter.unusedVariables false
def inT (m a b c d : Int) : Bool := inB m a && inB m b && inB m c && inB m d
def zeroT (a b c d : Int) : Bool := decide (a = 0 ∧ b = 0 ∧ c = 0 ∧ d = 0)
def fT (a b c d : Int) : Int := if a ≠ 0 then a else if b ≠ 0 then b else if c ≠ 0 then c else d
def gT (a b c d : Int) : Int := ((Int.gcd ((Int.gcd a b : Nat) : Int) ((Int.gcd c d : Nat) : Int) : Nat) : Int)
def sT (a b c d : Int) : Int := if fT a b c d < 0 then -gT a b c d else gT a b c d
def rightT (a b c d : Int) : Bool := inT 5 a b c d && decide (0 < fT a b c d) && decide (gT a b c d = 1)
def eqT (a b c d a' b' c' d' : Int) : Bool := decide (a = a' ∧ b = b' ∧ c = c' ∧ d = d')
theorem inT_iff {m a b c d : Int} : inT m a b c d = true ↔ (-m ≤ a ∧ a ≤ m) ∧ (-m ≤ b ∧ b ≤ m) ∧ (-m ≤ c ∧ c ≤ m) ∧ (-m ≤ d ∧ d ≤ m) := by
  simp [inT, inB_iff, and_assoc]
theorem inT_mono {m n a b c d : Int} (h : inT m a b c d = true) (hmn : m ≤ n) : inT n a b c d = true := by
  rw [inT_iff] at h ⊢; omega
theorem fT_zero {a b c d : Int} : fT a b c d = 0 ↔ (a = 0 ∧ b = 0 ∧ c = 0 ∧ d = 0) := by
  unfold fT
  split
  · omega
  · split
    · omega
    · split <;> omega
theorem gT_pos {a b c d : Int} (h : ¬ (a = 0 ∧ b = 0 ∧ c = 0 ∧ d = 0)) : 0 < gT a b c d := by
  unfold gT
  have h2 : Int.gcd ((Int.gcd a b : Nat) : Int) ((Int.gcd c d : Nat) : Int) ≠ 0 := by
    intro e
    rw [Int.gcd_eq_zero_iff] at e
    have e1 : Int.gcd a b = 0 := by omega
    have e2 : Int.gcd c d = 0 := by omega
    rw [Int.gcd_eq_zero_iff] at e1 e2
    exact h ⟨e1.1, e1.2, e2.1, e2.2⟩
  omega
theorem gcd_four (a b c d : Int) : ((Int.gcd ((Int.gcd ((Int.gcd ((Int.gcd 0 a : Nat) : Int) b : Nat) : Int) c : Nat) : Int) d : Nat) : Int) = gT a b c d := by
  unfold gT
  have h1 : Int.gcd ((Int.gcd 0 a : Nat) : Int) b = Int.gcd a b := by
    rw [Int.gcd_zero_left]
    show Nat.gcd (a.natAbs : Int).natAbs b.natAbs = Nat.gcd a.natAbs b.natAbs
    rw [Int.natAbs_natCast]
  rw [h1]
  show ((Nat.gcd (Nat.gcd (Int.gcd a b) c.natAbs) d.natAbs : Nat) : Int) = ((Nat.gcd (Int.gcd a b) (Nat.gcd c.natAbs d.natAbs) : Nat) : Int)
  rw [Nat.gcd_assoc]
theorem sT_ne {a b c d : Int} (h : ¬ (a = 0 ∧ b = 0 ∧ c = 0 ∧ d = 0)) : sT a b c d ≠ 0 := by
  have := gT_pos h
  unfold sT
  split <;> omega
theorem tdiv_le {m x s : Int} (hx : -m ≤ x ∧ x ≤ m) : -m ≤ x.tdiv s ∧ x.tdiv s ≤ m := by
  have h : (x.tdiv s).natAbs ≤ x.natAbs := by rw [Int.natAbs_tdiv]; exact Nat.div_le_self _ _
  omega
theorem rightT_iff {a b c d : Int} : rightT a b c d = true ↔ inT 5 a b c d = true ∧ 0 < fT a b c d ∧ gT a b c d = 1 := by
  simp [rightT, and_assoc]
theorem rightT_ne {a b c d : Int} (h : rightT a b c d = true) : ¬ (a = 0 ∧ b = 0 ∧ c = 0 ∧ d = 0) := by
  have := (rightT_iff.1 h).2.1
  intro e
  rw [fT_zero.2 e] at this
  omega
def ofC (a b c d : Int) : Int :=
  if inT 1000 a b c d && !zeroT a b c d then
    if rightT (a.tdiv (sT a b c d)) (b.tdiv (sT a b c d)) (c.tdiv (sT a b c d)) (d.tdiv (sT a b c d)) then 0 else 9
  else 1
def ofP (a b c d x : Int) : Int := if ofC a b c d = 0 then x.tdiv (sT a b c d) else 0
theorem ofC_form {a b c d : Int} (h : (inT 1000 a b c d && !zeroT a b c d) = false) : ofC a b c d = 1 := by unfold ofC; rw [h]; rfl
theorem zeroT_iff {a b c d : Int} : zeroT a b c d = true ↔ (a = 0 ∧ b = 0 ∧ c = 0 ∧ d = 0) := by simp [zeroT]
def nT (a b c d : Int) : Int := a * a + b * b + c * c + d * d
theorem sqn (x : Int) : 0 ≤ x * x := by rw [← Int.natAbs_mul_self' x]; exact Int.natCast_nonneg _
theorem sqp {x : Int} (h : x ≠ 0) : 0 < x * x := by
  have := sqn x
  have : x * x ≠ 0 := fun e => by rcases Int.mul_eq_zero.1 e with e | e <;> exact h e
  omega
theorem nT_pos {a b c d : Int} (h : ¬ (a = 0 ∧ b = 0 ∧ c = 0 ∧ d = 0)) : 0 < nT a b c d := by
  have h1 := sqn a
  have h2 := sqn b
  have h3 := sqn c
  have h4 := sqn d
  unfold nT
  by_cases ha : a = 0
  · by_cases hb : b = 0
    · by_cases hc : c = 0
      · have := sqp (x := d) (fun e => h ⟨ha, hb, hc, e⟩); omega
      · have := sqp hc; omega
    · have := sqp hb; omega
  · have := sqp ha; omega
theorem nT_le {a b c d : Int} (h : inT 5 a b c d = true) : nT a b c d ≤ 100 := by
  rw [inT_iff] at h
  have h1 := mulB h.1 h.1
  have h2 := mulB h.2.1 h.2.1
  have h3 := mulB h.2.2.1 h.2.2.1
  have h4 := mulB h.2.2.2 h.2.2.2
  unfold nT
  omega
def apX (a b c d x y z : Int) : Int := (a * a + b * b - c * c - d * d) * x + 2 * (b * c - a * d) * y + 2 * (b * d + a * c) * z
def apY (a b c d x y z : Int) : Int := 2 * (b * c + a * d) * x + (a * a - b * b + c * c - d * d) * y + 2 * (c * d - a * b) * z
def apZ (a b c d x y z : Int) : Int := 2 * (b * d - a * c) * x + 2 * (c * d + a * b) * y + (a * a - b * b - c * c + d * d) * z
theorem ap_dot (a b c d x y z x' y' z' : Int) :
    dot (apX a b c d x y z) (apY a b c d x y z) (apZ a b c d x y z) (apX a b c d x' y' z') (apY a b c d x' y' z') (apZ a b c d x' y' z') = nT a b c d * nT a b c d * dot x y z x' y' z' := by
  unfold dot apX apY apZ nT
  grind
def coA (s1 s2 s3 s4 t1 t2 t3 t4 : Int) : Int := s1 * t1 - s2 * t2 - s3 * t3 - s4 * t4
def coB (s1 s2 s3 s4 t1 t2 t3 t4 : Int) : Int := s1 * t2 + s2 * t1 + s3 * t4 - s4 * t3
def coC (s1 s2 s3 s4 t1 t2 t3 t4 : Int) : Int := s1 * t3 - s2 * t4 + s3 * t1 + s4 * t2
def coD (s1 s2 s3 s4 t1 t2 t3 t4 : Int) : Int := s1 * t4 + s2 * t3 - s3 * t2 + s4 * t1
theorem apW_X {a b c d x y z : Int} (ht : inT 5 a b c d = true) (hv : withinB 1800 x y z = true) :
    wrap64 (wrap64 (wrap64 (wrap64 (wrap64 (wrap64 (wrap64 (a * a) + wrap64 (b * b)) - wrap64 (c * c)) - wrap64 (d * d)) * x) + wrap64 (wrap64 (2 * wrap64 (wrap64 (b * c) - wrap64 (a * d))) * y)) + wrap64 (wrap64 (2 * wrap64 (wrap64 (b * d) + wrap64 (a * c))) * z)) = apX a b c d x y z := by
  obtain ⟨ha, hb, hc, hd⟩ := inT_iff.1 ht
  have h1 := mulB ha ha
  have h2 := mulB hb hb
  have h3 := mulB hc hc
  have h4 := mulB hd hd
  have h5 := mulB hb hc
  have h6 := mulB ha hd
  have h7 := mulB hb hd
  have h8 := mulB ha hc
  rw [wrap_id (n := a * a) (by omega) (by omega), wrap_id (n := b * b) (by omega) (by omega), wrap_id (n := c * c) (by omega) (by omega), wrap_id (n := d * d) (by omega) (by omega), wrap_id (n := b * c) (by omega) (by omega), wrap_id (n := a * d) (by omega) (by omega), wrap_id (n := b * d) (by omega) (by omega), wrap_id (n := a * c) (by omega) (by omega),
    wrap_id (n := a * a + b * b) (by omega) (by omega), wrap_id (n := a * a + b * b - c * c) (by omega) (by omega), wrap_id (n := a * a + b * b - c * c - d * d) (by omega) (by omega), wrap_id (n := b * c - a * d) (by omega) (by omega), wrap_id (n := b * d + a * c) (by omega) (by omega), wrap_id (n := 2 * (b * c - a * d)) (by omega) (by omega), wrap_id (n := 2 * (b * d + a * c)) (by omega) (by omega)]
  exact dotW_eq (A := 100) (B := 1800) (withinB_iff.2 ⟨by omega, by omega, by omega⟩) hv (by omega)
theorem apW_Y {a b c d x y z : Int} (ht : inT 5 a b c d = true) (hv : withinB 1800 x y z = true) :
    wrap64 (wrap64 (wrap64 (wrap64 (2 * wrap64 (wrap64 (b * c) + wrap64 (a * d))) * x) + wrap64 (wrap64 (wrap64 (wrap64 (wrap64 (a * a) - wrap64 (b * b)) + wrap64 (c * c)) - wrap64 (d * d)) * y)) + wrap64 (wrap64 (2 * wrap64 (wrap64 (c * d) - wrap64 (a * b))) * z)) = apY a b c d x y z := by
  obtain ⟨ha, hb, hc, hd⟩ := inT_iff.1 ht
  have h1 := mulB ha ha
  have h2 := mulB hb hb
  have h3 := mulB hc hc
  have h4 := mulB hd hd
  have h5 := mulB hb hc
  have h6 := mulB ha hd
  have h7 := mulB hc hd
  have h8 := mulB ha hb
  rw [wrap_id (n := a * a) (by omega) (by omega), wrap_id (n := b * b) (by omega) (by omega), wrap_id (n := c * c) (by omega) (by omega), wrap_id (n := d * d) (by omega) (by omega), wrap_id (n := b * c) (by omega) (by omega), wrap_id (n := a * d) (by omega) (by omega), wrap_id (n := c * d) (by omega) (by omega), wrap_id (n := a * b) (by omega) (by omega),
    wrap_id (n := a * a - b * b) (by omega) (by omega), wrap_id (n := a * a - b * b + c * c) (by omega) (by omega), wrap_id (n := a * a - b * b + c * c - d * d) (by omega) (by omega), wrap_id (n := b * c + a * d) (by omega) (by omega), wrap_id (n := c * d - a * b) (by omega) (by omega), wrap_id (n := 2 * (b * c + a * d)) (by omega) (by omega), wrap_id (n := 2 * (c * d - a * b)) (by omega) (by omega)]
  exact dotW_eq (A := 100) (B := 1800) (withinB_iff.2 ⟨by omega, by omega, by omega⟩) hv (by omega)
theorem apW_Z {a b c d x y z : Int} (ht : inT 5 a b c d = true) (hv : withinB 1800 x y z = true) :
    wrap64 (wrap64 (wrap64 (wrap64 (2 * wrap64 (wrap64 (b * d) - wrap64 (a * c))) * x) + wrap64 (wrap64 (2 * wrap64 (wrap64 (c * d) + wrap64 (a * b))) * y)) + wrap64 (wrap64 (wrap64 (wrap64 (wrap64 (a * a) - wrap64 (b * b)) - wrap64 (c * c)) + wrap64 (d * d)) * z)) = apZ a b c d x y z := by
  obtain ⟨ha, hb, hc, hd⟩ := inT_iff.1 ht
  have h1 := mulB ha ha
  have h2 := mulB hb hb
  have h3 := mulB hc hc
  have h4 := mulB hd hd
  have h5 := mulB hb hd
  have h6 := mulB ha hc
  have h7 := mulB hc hd
  have h8 := mulB ha hb
  rw [wrap_id (n := a * a) (by omega) (by omega), wrap_id (n := b * b) (by omega) (by omega), wrap_id (n := c * c) (by omega) (by omega), wrap_id (n := d * d) (by omega) (by omega), wrap_id (n := b * d) (by omega) (by omega), wrap_id (n := a * c) (by omega) (by omega), wrap_id (n := c * d) (by omega) (by omega), wrap_id (n := a * b) (by omega) (by omega),
    wrap_id (n := a * a - b * b) (by omega) (by omega), wrap_id (n := a * a - b * b - c * c) (by omega) (by omega), wrap_id (n := a * a - b * b - c * c + d * d) (by omega) (by omega), wrap_id (n := b * d - a * c) (by omega) (by omega), wrap_id (n := c * d + a * b) (by omega) (by omega), wrap_id (n := 2 * (b * d - a * c)) (by omega) (by omega), wrap_id (n := 2 * (c * d + a * b)) (by omega) (by omega)]
  exact dotW_eq (A := 100) (B := 1800) (withinB_iff.2 ⟨by omega, by omega, by omega⟩) hv (by omega)
theorem coW_A {s1 s2 s3 s4 t1 t2 t3 t4 : Int} (hs : inT 5 s1 s2 s3 s4 = true) (ht : inT 5 t1 t2 t3 t4 = true) :
    wrap64 (wrap64 (wrap64 (wrap64 (s1 * t1) - wrap64 (s2 * t2)) - wrap64 (s3 * t3)) - wrap64 (s4 * t4)) = coA s1 s2 s3 s4 t1 t2 t3 t4 ∧ -100 ≤ coA s1 s2 s3 s4 t1 t2 t3 t4 ∧ coA s1 s2 s3 s4 t1 t2 t3 t4 ≤ 100 := by
  obtain ⟨ha, hb, hc, hd⟩ := inT_iff.1 hs
  obtain ⟨ka, kb, kc, kd⟩ := inT_iff.1 ht
  have h1 := mulB ha ka
  have h2 := mulB hb kb
  have h3 := mulB hc kc
  have h4 := mulB hd kd
  unfold coA
  rw [wrap_id (n := s1 * t1) (by omega) (by omega), wrap_id (n := s2 * t2) (by omega) (by omega), wrap_id (n := s3 * t3) (by omega) (by omega), wrap_id (n := s4 * t4) (by omega) (by omega), wrap_id (n := s1 * t1 - s2 * t2) (by omega) (by omega), wrap_id (n := s1 * t1 - s2 * t2 - s3 * t3) (by omega) (by omega), wrap_id (by omega) (by omega)]
  omega
theorem coW_B {s1 s2 s3 s4 t1 t2 t3 t4 : Int} (hs : inT 5 s1 s2 s3 s4 = true) (ht : inT 5 t1 t2 t3 t4 = true) :
    wrap64 (wrap64 (wrap64 (wrap64 (s1 * t2) + wrap64 (s2 * t1)) + wrap64 (s3 * t4)) - wrap64 (s4 * t3)) = coB s1 s2 s3 s4 t1 t2 t3 t4 ∧ -100 ≤ coB s1 s2 s3 s4 t1 t2 t3 t4 ∧ coB s1 s2 s3 s4 t1 t2 t3 t4 ≤ 100 := by
  obtain ⟨ha, hb, hc, hd⟩ := inT_iff.1 hs
  obtain ⟨ka, kb, kc, kd⟩ := inT_iff.1 ht
  have h1 := mulB ha kb
  have h2 := mulB hb ka
  have h3 := mulB hc kd
  have h4 := mulB hd kc
  unfold coB
  rw [wrap_id (n := s1 * t2) (by omega) (by omega), wrap_id (n := s2 * t1) (by omega) (by omega), wrap_id (n := s3 * t4) (by omega) (by omega), wrap_id (n := s4 * t3) (by omega) (by omega), wrap_id (n := s1 * t2 + s2 * t1) (by omega) (by omega), wrap_id (n := s1 * t2 + s2 * t1 + s3 * t4) (by omega) (by omega), wrap_id (by omega) (by omega)]
  omega
theorem coW_C {s1 s2 s3 s4 t1 t2 t3 t4 : Int} (hs : inT 5 s1 s2 s3 s4 = true) (ht : inT 5 t1 t2 t3 t4 = true) :
    wrap64 (wrap64 (wrap64 (wrap64 (s1 * t3) - wrap64 (s2 * t4)) + wrap64 (s3 * t1)) + wrap64 (s4 * t2)) = coC s1 s2 s3 s4 t1 t2 t3 t4 ∧ -100 ≤ coC s1 s2 s3 s4 t1 t2 t3 t4 ∧ coC s1 s2 s3 s4 t1 t2 t3 t4 ≤ 100 := by
  obtain ⟨ha, hb, hc, hd⟩ := inT_iff.1 hs
  obtain ⟨ka, kb, kc, kd⟩ := inT_iff.1 ht
  have h1 := mulB ha kc
  have h2 := mulB hb kd
  have h3 := mulB hc ka
  have h4 := mulB hd kb
  unfold coC
  rw [wrap_id (n := s1 * t3) (by omega) (by omega), wrap_id (n := s2 * t4) (by omega) (by omega), wrap_id (n := s3 * t1) (by omega) (by omega), wrap_id (n := s4 * t2) (by omega) (by omega), wrap_id (n := s1 * t3 - s2 * t4) (by omega) (by omega), wrap_id (n := s1 * t3 - s2 * t4 + s3 * t1) (by omega) (by omega), wrap_id (by omega) (by omega)]
  omega
theorem coW_D {s1 s2 s3 s4 t1 t2 t3 t4 : Int} (hs : inT 5 s1 s2 s3 s4 = true) (ht : inT 5 t1 t2 t3 t4 = true) :
    wrap64 (wrap64 (wrap64 (wrap64 (s1 * t4) + wrap64 (s2 * t3)) - wrap64 (s3 * t2)) + wrap64 (s4 * t1)) = coD s1 s2 s3 s4 t1 t2 t3 t4 ∧ -100 ≤ coD s1 s2 s3 s4 t1 t2 t3 t4 ∧ coD s1 s2 s3 s4 t1 t2 t3 t4 ≤ 100 := by
  obtain ⟨ha, hb, hc, hd⟩ := inT_iff.1 hs
  obtain ⟨ka, kb, kc, kd⟩ := inT_iff.1 ht
  have h1 := mulB ha kd
  have h2 := mulB hb kc
  have h3 := mulB hc kb
  have h4 := mulB hd ka
  unfold coD
  rw [wrap_id (n := s1 * t4) (by omega) (by omega), wrap_id (n := s2 * t3) (by omega) (by omega), wrap_id (n := s3 * t2) (by omega) (by omega), wrap_id (n := s4 * t1) (by omega) (by omega), wrap_id (n := s1 * t4 + s2 * t3) (by omega) (by omega), wrap_id (n := s1 * t4 + s2 * t3 - s3 * t2) (by omega) (by omega), wrap_id (by omega) (by omega)]
  omega
def coR (s1 s2 s3 s4 t1 t2 t3 t4 : Int) : Bool := rightT s1 s2 s3 s4 && rightT t1 t2 t3 t4
def coK (s1 s2 s3 s4 t1 t2 t3 t4 : Int) : Int :=
  if coR s1 s2 s3 s4 t1 t2 t3 t4 then ofC (coA s1 s2 s3 s4 t1 t2 t3 t4) (coB s1 s2 s3 s4 t1 t2 t3 t4) (coC s1 s2 s3 s4 t1 t2 t3 t4) (coD s1 s2 s3 s4 t1 t2 t3 t4) else 1
def coP (s1 s2 s3 s4 t1 t2 t3 t4 v : Int) : Int :=
  if coR s1 s2 s3 s4 t1 t2 t3 t4 then ofP (coA s1 s2 s3 s4 t1 t2 t3 t4) (coB s1 s2 s3 s4 t1 t2 t3 t4) (coC s1 s2 s3 s4 t1 t2 t3 t4) (coD s1 s2 s3 s4 t1 t2 t3 t4) v else 0
theorem absLe {x m : Int} (hm : 0 ≤ m) (h : x * x ≤ m * m) : -m ≤ x ∧ x ≤ m := by
  have h1 : x.natAbs * x.natAbs ≤ m.natAbs * m.natAbs := by
    have e1 := Int.natAbs_mul_self' x
    have e2 := Int.natAbs_mul_self' m
    omega
  have := Nat.mul_self_le_mul_self_iff.1 h1
  omega
theorem ap_bound {a b c d x y z D M : Int} (ht : rightT a b c d = true) (hD : dot x y z x y z ≤ D) (hM : 0 ≤ M) (h : 10000 * D ≤ M * M) : withinB M (apX a b c d x y z) (apY a b c d x y z) (apZ a b c d x y z) = true := by
  have hn := nT_le (rightT_iff.1 ht).1
  have hp := nT_pos (rightT_ne ht)
  have hn2 := mulB (A := 100) (B := 100) (a := nT a b c d) (b := nT a b c d) (by omega) (by omega)
  have hd := ap_dot a b c d x y z x y z
  have h0 : 0 ≤ dot x y z x y z := by have h1 := sqn x; have h2 := sqn y; have h3 := sqn z; unfold dot; omega
  have hm := mulB (A := 10000) (B := D) (a := nT a b c d * nT a b c d) (b := dot x y z x y z) (by omega) (by omega)
  have s1 := sqn (apX a b c d x y z)
  have s2 := sqn (apY a b c d x y z)
  have s3 := sqn (apZ a b c d x y z)
  have hdd : dot (apX a b c d x y z) (apY a b c d x y z) (apZ a b c d x y z) (apX a b c d x y z) (apY a b c d x y z) (apZ a b c d x y z) = apX a b c d x y z * apX a b c d x y z + apY a b c d x y z * apY a b c d x y z + apZ a b c d x y z * apZ a b c d x y z := rfl
  rw [withinB_iff]
  exact ⟨absLe hM (by omega), absLe hM (by omega), absLe hM (by omega)⟩
theorem ap_ne {a b c d x y z : Int} (ht : rightT a b c d = true) (hz : ¬ (x = 0 ∧ y = 0 ∧ z = 0)) : ¬ (apX a b c d x y z = 0 ∧ apY a b c d x y z = 0 ∧ apZ a b c d x y z = 0) := by
  rintro ⟨h1, h2, h3⟩
  have hp := nT_pos (rightT_ne ht)
  have hd := ap_dot a b c d x y z x y z
  rw [h1, h2, h3] at hd
  have := Int.mul_pos (Int.mul_pos hp hp) (sq_pos hz)
  rw [← hd] at this
  exact absurd this (by decide)
def TurnAt (w : World) (b : Nat) (p q r s : Int) : Prop := w.cell? ⟨b, 0, none⟩ = some (.int .i64 p) ∧ w.cell? ⟨b, 1, none⟩ = some (.int .i64 q) ∧ w.cell? ⟨b, 2, none⟩ = some (.int .i64 r) ∧ w.cell? ⟨b, 3, none⟩ = some (.int .i64 s)
def FreeT (w : World) (b : Nat) : Prop := w.frozen? ⟨b, 0, none⟩ = false ∧ w.frozen? ⟨b, 1, none⟩ = false ∧ w.frozen? ⟨b, 2, none⟩ = false ∧ w.frozen? ⟨b, 3, none⟩ = false
theorem TurnAt.kept {w w' : World} {b : Nat} {p q r s : Int} (h : TurnAt w b p q r s) (hb : b < w.heap.size) (hB : Below w.heap.size w w') : TurnAt w' b p q r s := by
  obtain ⟨h0, h1, h2, h3⟩ := h
  exact ⟨by rw [hB.cell (p := ⟨b, 0, none⟩) hb]; exact h0, by rw [hB.cell (p := ⟨b, 1, none⟩) hb]; exact h1, by rw [hB.cell (p := ⟨b, 2, none⟩) hb]; exact h2, by rw [hB.cell (p := ⟨b, 3, none⟩) hb]; exact h3⟩
theorem FreeT.kept {w w' : World} {b : Nat} (h : FreeT w b) (hb : b < w.heap.size) (hB : Below w.heap.size w w') : FreeT w' b := by
  obtain ⟨h0, h1, h2, h3⟩ := h
  exact ⟨by rw [hB.frozen (p := ⟨b, 0, none⟩) hb]; exact h0, by rw [hB.frozen (p := ⟨b, 1, none⟩) hb]; exact h1, by rw [hB.frozen (p := ⟨b, 2, none⟩) hb]; exact h2, by rw [hB.frozen (p := ⟨b, 3, none⟩) hb]; exact h3⟩
theorem turnAt_new (w : World) (p q r s : Int) (t : TypeId) : TurnAt (w.alloc (.cells #[.int .i64 p, .int .i64 q, .int .i64 r, .int .i64 s] t)) w.heap.size p q r s := by
  refine ⟨?_, ?_, ?_, ?_⟩ <;> simp
theorem TurnAt.lt {w : World} {b : Nat} {p q r s : Int} (h : TurnAt w b p q r s) : b < w.heap.size := World.block_lt_of_cell? w _ h.1
theorem TurnAt.alloc {w : World} {b : Nat} {p q r s : Int} (h : TurnAt w b p q r s) (o : Obj) : TurnAt (w.alloc o) b p q r s := h.kept h.lt (below1 _ _)
theorem below_set5 {w w1 : World} {b : Nat} (h : Below w.heap.size w w1) (hb : w.heap.size ≤ b) (x y z u v : Value) : Below w.heap.size w (((((w1.setCell ⟨b, 0, none⟩ x).setCell ⟨b, 1, none⟩ y).setCell ⟨b, 2, none⟩ z).setCell ⟨b, 3, none⟩ u).setCell ⟨b, 4, none⟩ v) := ((((h.setCell hb _).setCell hb _).setCell hb _).setCell hb _).setCell hb _
theorem equal_turn (a1 a2 a3 a4 b1 b2 b3 b4 : Int) (w : World) : (Op.equalIn 10000 46 (.agg #[.int .i64 a1, .int .i64 a2, .int .i64 a3, .int .i64 a4]) (.agg #[.int .i64 b1, .int .i64 b2, .int .i64 b3, .int .i64 b4])).run Tryz.prog w = .ok (eqT a1 a2 a3 a4 b1 b2 b3 b4) w := by
  have h := run_equalIn_struct (P := Tryz.prog) w 9999 46 #[.int .i64 a1, .int .i64 a2, .int .i64 a3, .int .i64 a4] #[.int .i64 b1, .int .i64 b2, .int .i64 b3, .int .i64 b4] (by kernel_rfl) (by kernel_rfl)
  refine h.trans ?_
  by_cases h1 : a1 = b1
  · by_cases h2 : a2 = b2
    · by_cases h3 : a3 = b3
      · by_cases h4 : a4 = b4
        · simp [go_sem, eqT, h1, h2, h3, h4]
        · simp [go_sem, eqT, h1, h2, h3, h4]
      · simp [go_sem, eqT, h1, h2, h3]
    · simp [go_sem, eqT, h1, h2]
  · simp [go_sem, eqT, h1]
theorem eql_turn (a1 a2 a3 a4 b1 b2 b3 b4 : Int) (w : World) : (binOp .eql 46 (.agg #[.int .i64 a1, .int .i64 a2, .int .i64 a3, .int .i64 a4]) (.agg #[.int .i64 b1, .int .i64 b2, .int .i64 b3, .int .i64 b4])).run Tryz.prog w = .ok (.bool (eqT a1 a2 a3 a4 b1 b2 b3 b4)) w := by
  rw [run_eql_struct, equal_turn]; rfl
set_option maxRecDepth 100000 in
theorem l03Within_any (m a b c d : Int) (w : World) (hm0 : 0 ≤ m) (hm : m ≤ 1000000) :
    Calls Tryz.prog 116 #[.agg #[.int .i64 a, .int .i64 b, .int .i64 c, .int .i64 d], .int .i64 m] w fun e w' => e = .returned (.bool (inT m a b c d)) ∧ Below w.heap.size w w' := by
  have hwr : wrap64 (-m) = -m := wrap_id (by omega) (by omega)
  go_enter Tryz.func116, Tryz.ntmps116
  go_wp2_with fail
  refine (l02Is_any a (-m) m _).mono ?_
  rintro e w1 ⟨rfl, rfl⟩
  rw [isB]
  cases ha : inB m a
  · go_wp2_with fail
    go_ret
    exact ⟨by simp [inT, ha], below1 _ _⟩
  · go_wp2_with fail
    refine (l02Is_any b (-m) m _).mono ?_
    rintro e w1 ⟨rfl, rfl⟩
    rw [isB]
    cases hb : inB m b
    · go_wp2_with fail
      go_ret
      exact ⟨by simp [inT, hb], below1 _ _⟩
    · go_wp2_with fail
      refine (l02Is_any c (-m) m _).mono ?_
      rintro e w1 ⟨rfl, rfl⟩
      rw [isB]
      cases hc : inB m c
      · go_wp2_with fail
        go_ret
        exact ⟨by simp [inT, hc], below1 _ _⟩
      · go_wp2_with fail
        refine (l02Is_any d (-m) m _).mono ?_
        rintro e w1 ⟨rfl, rfl⟩
        rw [isB]
        go_wp2_with fail
        go_ret
        exact ⟨by simp [inT, ha, hb, hc], below1 _ _⟩
theorem fT_0 {a b c d : Int} (h : a ≠ 0) : fT a b c d = a := by unfold fT; rw [if_pos h]
theorem fT_1 {b c d : Int} (h : b ≠ 0) : fT 0 b c d = b := by unfold fT; rw [if_neg (by simp), if_pos h]
theorem fT_2 {c d : Int} (h : c ≠ 0) : fT 0 0 c d = c := by unfold fT; rw [if_neg (by simp), if_neg (by simp), if_pos h]
theorem fT_3 {d : Int} : fT 0 0 0 d = d := by unfold fT; rw [if_neg (by simp), if_neg (by simp), if_neg (by simp)]
set_option maxRecDepth 100000 in
theorem l03First_any (a b c d : Int) (w : World) :
    Calls Tryz.prog 117 #[.agg #[.int .i64 a, .int .i64 b, .int .i64 c, .int .i64 d]] w fun e w' => e = .returned (.int .i64 (fT a b c d)) ∧ Below w.heap.size w w' := by
  go_enter Tryz.func117, Tryz.ntmps117
  go_wp2_with fail
  go_loop [4] (fun i => ∃ k : Nat, k ≤ 4 ∧ i = .int .i64 k ∧ Hid (0 < k → a = 0) ∧ Hid (1 < k → b = 0) ∧ Hid (2 < k → c = 0) ∧ Hid (3 < k → d = 0)) (fun i => 4 - (intOf i).toNat)
  case atStart => exact ⟨0, Nat.zero_le _, rfl, yz (by omega), yz (by omega), yz (by omega), yz (by omega)⟩
  case round =>
    obtain ⟨k, hk, rfl, hx, hy, hz, hu⟩ := hrel
    have hk5 : k = 0 ∨ k = 1 ∨ k = 2 ∨ k = 3 ∨ k = 4 := by omega
    rcases hk5 with rfl | rfl | rfl | rfl | rfl
    · have _u := hk
      by_cases h : a = 0
      · subst h
        clear hx hy hz hu
        go_wp2
        go_round
        case rel => exact ⟨1, by omega, rfl, yz (by simp), yz (by omega), yz (by omega), yz (by omega)⟩
        case measure => simp [intOf]
      · have HF : Hid (fT a b c d = a) := yz (fT_0 h)
        clear hx hy hz hu
        go_wp2
        go_ret
        exact ⟨by rw [yy HF]; rfl, below2 _ _ _⟩
    · have e0 := yy hx (by omega)
      subst e0
      by_cases h : b = 0
      · subst h
        clear hx hy hz hu
        go_wp2
        go_round
        case rel => exact ⟨2, by omega, rfl, yz (by simp), yz (by simp), yz (by omega), yz (by omega)⟩
        case measure => simp [intOf]
      · have HF : Hid (fT 0 b c d = b) := yz (fT_1 h)
        clear hx hy hz hu
        go_wp2
        go_ret
        exact ⟨by rw [yy HF]; rfl, below2 _ _ _⟩
    · have e0 := yy hx (by omega)
      have e1 := yy hy (by omega)
      subst e0 e1
      by_cases h : c = 0
      · subst h
        clear hx hy hz hu
        go_wp2
        go_round
        case rel => exact ⟨3, by omega, rfl, yz (by simp), yz (by simp), yz (by simp), yz (by omega)⟩
        case measure => simp [intOf]
      · have HF : Hid (fT 0 0 c d = c) := yz (fT_2 h)
        clear hx hy hz hu
        go_wp2
        go_ret
        exact ⟨by rw [yy HF]; rfl, below2 _ _ _⟩
    · have e0 := yy hx (by omega)
      have e1 := yy hy (by omega)
      have e2 := yy hz (by omega)
      subst e0 e1 e2
      by_cases h : d = 0
      · subst h
        clear hx hy hz hu
        go_wp2
        go_round
        case rel => exact ⟨4, by omega, rfl, yz (by simp), yz (by simp), yz (by simp), yz (by simp)⟩
        case measure => simp [intOf]
      · have HF : Hid (fT 0 0 0 d = d) := yz fT_3
        clear hx hy hz hu
        go_wp2
        go_ret
        exact ⟨by rw [yy HF]; rfl, below2 _ _ _⟩
    · have e0 := yy hx (by omega)
      have e1 := yy hy (by omega)
      have e2 := yy hz (by omega)
      have e3 := yy hu (by omega)
      subst e0 e1 e2 e3
      clear hx hy hz hu
      go_wp2
      go_ret
      exact ⟨by rw [fT_3]; rfl, below2 _ _ _⟩
set_option maxRecDepth 100000 in
theorem l03Gcd_any (a b c d : Int) (w : World) (h : inT 1000 a b c d = true) :
    Calls Tryz.prog 118 #[.agg #[.int .i64 a, .int .i64 b, .int .i64 c, .int .i64 d]] w fun e w' => e = .returned (.int .i64 (gT a b c d)) ∧ Below w.heap.size w w' := by
  obtain ⟨ha, hb, hc, hd⟩ := inT_iff.1 h
  have hg1 := gcd_le ha hb
  have hg2 := gcd_le hc hd
  go_enter Tryz.func118, Tryz.ntmps118
  go_wp2_with fail
  go_quiet (first | (go_at_call_of 106 (Value.int IntKind.i64 a); refine Calls.quiet_of (l02Gcd_any a b _ (by omega) (by omega))) | (go_at_call_of 106 (Value.int IntKind.i64 c); refine Calls.quiet_of (l02Gcd_any c d _ (by omega) (by omega))) | (go_at_call 106; refine Calls.quiet_of (l02Gcd_any _ _ _ ?_ ?_) <;> omega))
  go_wp2
  go_ret
  exact ⟨rfl, below_call (below1 _ _) (below_drewN _ _)⟩
set_option maxRecDepth 100000 in
theorem specTRight_any (a b c d : Int) (w : World) :
    Calls Tryz.prog 77 #[.agg #[.int .i64 a, .int .i64 b, .int .i64 c, .int .i64 d]] w fun e w' => e = .returned (.bool (rightT a b c d)) ∧ Below w.heap.size w w' := by
  go_enter Tryz.func77, Tryz.ntmps77
  go_wp2_with fail
  refine (l03Within_any 5 a b c d _ (by omega) (by omega)).mono ?_
  rintro e w1 ⟨rfl, hB1⟩
  have va : TurnAt w1 w.heap.size a b c d := (turnAt_new w a b c d _).kept (by simp) hB1
  have hB : Below w.heap.size w w1 := below_call (below1 _ _) hB1
  clear hB1
  have hva := va
  obtain ⟨c0, c1, c2, c3⟩ := va
  cases h5 : inT 5 a b c d
  · go_wp2_with fail
    go_ret
    exact ⟨by simp [rightT, h5], hB⟩
  · go_wp2_with fail
    refine (l03First_any a b c d _).mono ?_
    rintro e w2 ⟨rfl, hB2⟩
    have va := hva.kept hva.lt hB2
    replace hB := below_call hB hB2
    clear hB2 hva c0 c1 c2 c3
    have hva := va
    obtain ⟨c0, c1, c2, c3⟩ := va
    by_cases hf : 0 < fT a b c d
    · go_wp2_with fail
      refine (l03Gcd_any a b c d _ (inT_mono h5 (by omega))).mono ?_
      rintro e w3 ⟨rfl, hB3⟩
      replace hB := below_call hB hB3
      go_wp2_with fail
      go_ret
      exact ⟨by rw [rightT, h5, decide_eq_true hf]; rfl, hB⟩
    · have HN := yz (decide_eq_false hf)
      go_wp2_with fail
      go_ret
      exact ⟨by rw [rightT, h5, yy HN]; rfl, hB⟩
end Go.Proofs.YtofpjlhoppofdaaGreatDoor
namespace Go.Proofs.YtofpjlhoppofdaaGreatDoor
open Go.RowKit Go.Sort
set_option linter.unusedVariables false
def ptT (a b c d : Int) : Nat → Int
  | 0 => a
  | 1 => b
  | 2 => c
  | _ => d
def gS4 (a b c d : Int) : Nat → Int
  | 0 => 0
  | k + 1 => ((Int.gcd (gS4 a b c d k) (ptT a b c d k) : Nat) : Int)
theorem ptT_le {m a b c d : Int} (h : inT m a b c d = true) (k : Nat) : -m ≤ ptT a b c d k ∧ ptT a b c d k ≤ m := by
  obtain ⟨h1, h2, h3, h4⟩ := inT_iff.1 h
  match k with
  | 0 => exact h1
  | 1 => exact h2
  | 2 => exact h3
  | _ + 3 => exact h4
theorem gS4_le {a b c d : Int} (h : inT 1000 a b c d = true) (k : Nat) : -1000000 ≤ gS4 a b c d k ∧ gS4 a b c d k ≤ 1000000 := by
  have : 0 ≤ gS4 a b c d k ∧ gS4 a b c d k ≤ 1000 := by
    induction k with
    | zero => exact ⟨by show (0 : Int) ≤ 0; omega, by show (0 : Int) ≤ 1000; omega⟩
    | succ k ih => exact gcd_le (m := 1000) (by omega) (ptT_le h k)
  omega
theorem zeroT_false {a b c d : Int} (h : zeroT a b c d = false) : ¬ (a = 0 ∧ b = 0 ∧ c = 0 ∧ d = 0) := fun e => by rw [zeroT_iff.2 e] at h; exact absurd h (by decide)
theorem wide_in {x y z : Int} (h : wideB x y z = true) : withinB 1800 x y z = true := by unfold wideB at h; rw [Bool.and_eq_true] at h; exact h.2
set_option maxHeartbeats 1000000 in
set_option maxRecDepth 100000 in
theorem l03Apply_any (a b c d x y z : Int) (w : World) (ht : inT 5 a b c d = true) (hv : withinB 1800 x y z = true) :
    Calls Tryz.prog 70 #[.agg #[.int .i64 a, .int .i64 b, .int .i64 c, .int .i64 d], .agg #[.int .i64 x, .int .i64 y, .int .i64 z]] w fun e w' => e = .returned (.agg #[.int .i64 (apX a b c d x y z), .int .i64 (apY a b c d x y z), .int .i64 (apZ a b c d x y z)]) ∧ Below w.heap.size w w' := by
  have HX := yz (apW_X ht hv)
  have HY := yz (apW_Y ht hv)
  have HZ := yz (apW_Z ht hv)
  clear ht hv
  go_enter Tryz.func70, Tryz.ntmps70
  go_wp2
  rw [yy HX, yy HY, yy HZ]
  exact bodyPost_ret (v := .agg #[.int .i64 (apX a b c d x y z), .int .i64 (apY a b c d x y z), .int .i64 (apZ a b c d x y z)]) (by simp [results, Tryz.results70, go_sem]) rfl ⟨rfl, below3 _ _ _ _⟩
def coneB (x y z cone : Int) : Bool := decide (0 < z) && decide (wrap64 (wrap64 (cone * cone) * dotW x y z x y z) ≤ wrap64 (wrap64 (10000 * z) * z))
def coneS (s : St) (a b c d cone : Int) : Bool := coneB (apX a b c d s.2.1 s.2.2.1 s.2.2.2) (apY a b c d s.2.1 s.2.2.1 s.2.2.2) (apZ a b c d s.2.1 s.2.2.1 s.2.2.2) cone
def seenTo (L : List St) (a b c d cone : Int) : Nat → List Int
  | 0 => []
  | k + 1 => if coneS (stA L k) a b c d cone = true then seenTo L a b c d cone k ++ [(stA L k).1] else seenTo L a b c d cone k
def seenL (L : List St) (a b c d cone : Int) : List Int := if (skyB L && rightT a b c d && (decide (0 ≤ cone) && decide (cone ≤ 100))) = true then seenTo L a b c d cone L.length else []
theorem seenTo_len (L : List St) (a b c d cone : Int) (k : Nat) : (seenTo L a b c d cone k).length ≤ k := by
  induction k with
  | zero => exact Nat.le_refl _
  | succ k ih =>
    unfold seenTo
    split
    · simp; exact ih
    · omega
abbrev ints (xs : List Int) : List Value := xs.map (Value.int .i64)
theorem info_int : (Tryz.prog.info? 2).map (fun i => (i.zero, i.size, i.bytes)) = some (some (.int .i64 0), 1, 8) := by kernel_rfl
theorem World.ownsRow_weak {w : World} {B : Nat} {t : TypeId} {v : Value} {n m : Nat} {xs : List Value} (h : w.ownsRow (B + 1) t m v n xs) : w.ownsRow B t m v n xs := by
  obtain ⟨h1, h2⟩ := h
  refine ⟨h1, ?_⟩
  rcases h2 with h2 | ⟨g, cap, cur, e, hb, r⟩
  · exact .inl h2
  · exact .inr ⟨g, cap, cur, e, by omega, r⟩
theorem World.ownsRow_less {w : World} {B B' : Nat} {t : TypeId} {v : Value} {n m : Nat} {xs : List Value} (h : w.ownsRow B t m v n xs) (hb : B' ≤ B) : w.ownsRow B' t m v n xs := by
  obtain ⟨h1, h2⟩ := h
  refine ⟨h1, ?_⟩
  rcases h2 with h2 | ⟨g, cap, cur, e, hg, r⟩
  · exact .inl h2
  · exact .inr ⟨g, cap, cur, e, by omega, r⟩
theorem grownOwn {B : Nat} {w w1 w2 : World} {v : Value} {t : TypeId} {n m : Nat} {xs : List Value} (h : Below B w w1) (hB : B ≤ w1.heap.size) (ho : w1.ownsRow B t m v n xs) (hg : w1.grownBy w2 v.ownBlock) : Below B w w2 :=
  h.trans ⟨hg.os, hg.tape, hg.output, hg.size, fun k hk => hg.block k (by omega) (fun e => by have := (ho.lt k e.symm).1; omega)⟩
def noneTo (L : List St) (id : Int) (k : Nat) : Prop := ∀ j, j < k → (stA L j).1 ≠ id
def atV (L : List St) (n : Nat) (id : Int) : Int × Int × Int := match (List.range n).find? (fun j => decide ((stA L j).1 = id)) with | none => (0, 0, 0) | some j => (stA L j).2
theorem at_none {L : List St} {n : Nat} {id : Int} (h : noneTo L id n) : atV L n id = (0, 0, 0) := by
  unfold atV
  have : (List.range n).find? (fun j => decide ((stA L j).1 = id)) = none := by
    rw [List.find?_eq_none]
    intro j hj
    simp [h j (List.mem_range.1 hj)]
  rw [this]
theorem at_hit {L : List St} {n k : Nat} {id : Int} (hk : k < n) (h : noneTo L id k) (h1 : (stA L k).1 = id) : atV L n id = (stA L k).2 := by
  unfold atV
  have : (List.range n).find? (fun j => decide ((stA L j).1 = id)) = some k := by
    rw [List.find?_range_eq_some]
    exact ⟨by simp [h1], List.mem_range.2 hk, fun j hj => by simp [h j hj]⟩
  rw [this]
theorem none_step {L : List St} {k : Nat} {id : Int} (h : noneTo L id k) (h1 : (stA L k).1 ≠ id) : noneTo L id (k + 1) := by
  intro j hj
  by_cases e : j = k
  · rw [e]; exact h1
  · exact h j (by omega)
def vecV (v : Int × Int × Int) : Value := .agg #[.int .i64 v.1, .int .i64 v.2.1, .int .i64 v.2.2]
set_option maxHeartbeats 1000000 in
set_option maxRecDepth 100000 in
theorem l04At_any (L : List St) (n : Nat) (id : Int) (a : Option Addr) (c : Nat) (w : World) (hn : n ≤ 1048576) (hS : Stars w a L n) :
    Calls Tryz.prog 71 #[.slice a n c, .int .i64 id] w fun e w' => e = .returned (vecV (atV L n id)) ∧ Below w.heap.size w w' := by
  rcases hS with rfl | ⟨b, o, rfl, hb, hc⟩
  · have HO : Hid (atV L 0 id = (0, 0, 0)) := yz (at_none (fun j hj => absurd hj (Nat.not_lt_zero _)))
    go_enter Tryz.func71, Tryz.ntmps71
    go_wp2_with fail
    refine wp_loop_rounds 1 ?_
    rw [rounds_succ]
    go_wp2_with fail
    exact bodyPost_ret (v := .agg #[.int .i64 0, .int .i64 0, .int .i64 0]) (by simp [results, Tryz.results71, go_sem]) rfl ⟨by rw [yy HO]; rfl, below1 _ _⟩
  go_enter Tryz.func71, Tryz.ntmps71
  go_wp2_with fail
  have hv := vecAt_new w 0 0 0 76
  have hf := freeAt_new w 0 0 0 76
  have hB := below1 w (.cells #[.int .i64 0, .int .i64 0, .int .i64 0] 76)
  generalize w.alloc (.cells #[.int .i64 0, .int .i64 0, .int .i64 0] 76) = W at hv hf hB ⊢
  have HC : Hid (∀ i, i < n → StarAt W b (o + i * 4) (stA L i)) := yz (fun i hi => (hc i hi).kept hb hB)
  have HB := yz hB
  clear hc hB
  obtain ⟨v0, v1, v2⟩ := hv
  obtain ⟨f0, f1, f2⟩ := hf
  go_loop [5] (fun i => ∃ k : Nat, k ≤ n ∧ i = .int .i64 k ∧ Hid (noneTo L id k)) (fun i => n - (intOf i).toNat)
  case atStart => exact ⟨0, by omega, rfl, yz (fun j hj => absurd hj (Nat.not_lt_zero _))⟩
  case round =>
    obtain ⟨k, hk, rfl, HF⟩ := hrel
    by_cases hkn : k < n
    · obtain ⟨⟨s1, s2, s3, s4⟩, hs⟩ : ∃ s, stA L k = s := ⟨_, rfl⟩
      have hst := (yy HC) k hkn
      rw [hs] at hst
      obtain ⟨c0, c1, c2, c3⟩ := hst
      have HT := yz hs
      clear hs
      by_cases hq : s1 = id
      · have HO : Hid (atV L n id = (s2, s3, s4)) := yz (by rw [at_hit hkn (yy HF) (by rw [yy HT]; exact hq), yy HT])
        have hq' : (s1 == id) = true := by simp [hq]
        clear hq
        go_wp2_with fail
        exact bodyPost_ret (v := .agg #[.int .i64 s2, .int .i64 s3, .int .i64 s4]) (by simp [results, Tryz.results71, go_sem, v0, v1, v2]) rfl ⟨by rw [yy HO]; rfl, below_set3 (yy HB) (Nat.le_refl _) _ _ _⟩
      · have HF2 := yz (none_step (yy HF) (by rw [yy HT]; exact hq))
        have hq' : (s1 == id) = false := by simp [hq]
        clear hq
        go_wp2_with fail
        go_round
        case rel => exact ⟨k + 1, by omega, by go_num, HF2⟩
        case measure => simp [intOf]; omega
    · have hkn' : k = n := by omega
      subst hkn'
      have HO := yz (at_none (yy HF))
      go_wp2_with fail
      exact bodyPost_ret (v := .agg #[.int .i64 0, .int .i64 0, .int .i64 0]) (by simp [results, Tryz.results71, go_sem, v0, v1, v2]) rfl ⟨by rw [yy HO]; rfl, below_set3 (yy HB) (Nat.le_refl _) _ _ _⟩
theorem VecAt.in {w : World} {b : Nat} {x y z : Int} (h : VecAt w b x y z) : b < w.heap.size := World.block_lt_of_cell? w _ h.1
set_option maxRecDepth 100000 in
theorem l02Sign_any (n : Int) (w : World) :
    Calls Tryz.prog 175 #[.int .i64 n] w fun e w' => e = .returned (.int .i64 (sgn n)) ∧ w' = w := by
  by_cases h : n < 0
  · have HS := yz (show sgn n = -1 by unfold sgn; rw [if_pos h])
    go_enter Tryz.func175, Tryz.ntmps175
    go_wp2
    go_ret
    exact ⟨by rw [yy HS]; rfl, rfl⟩
  · by_cases h2 : 0 < n
    · have HS := yz (show sgn n = 1 by unfold sgn; rw [if_neg h, if_pos h2])
      go_enter Tryz.func175, Tryz.ntmps175
      go_wp2
      go_ret
      exact ⟨by rw [yy HS]; rfl, rfl⟩
    · have HS := yz (show sgn n = 0 by unfold sgn; rw [if_neg h, if_neg h2])
      go_enter Tryz.func175, Tryz.ntmps175
      go_wp2
      go_ret
      exact ⟨by rw [yy HS]; rfl, rfl⟩
set_option maxRecDepth 100000 in
theorem l02Cos_any (a1 a2 a3 b1 b2 b3 c1 c2 c3 d1 d2 d3 : Int) (w : World) :
    Calls Tryz.prog 174 #[.agg #[.int .i64 a1, .int .i64 a2, .int .i64 a3], .agg #[.int .i64 b1, .int .i64 b2, .int .i64 b3], .agg #[.int .i64 c1, .int .i64 c2, .int .i64 c3], .agg #[.int .i64 d1, .int .i64 d2, .int .i64 d3]] w fun e w' => e = .returned (.int .i64 (cosS (dotW a1 a2 a3 b1 b2 b3) (dotW c1 c2 c3 d1 d2 d3) (wrap64 (wrap64 (dotW a1 a2 a3 b1 b2 b3 * dotW a1 a2 a3 b1 b2 b3) * wrap64 (dotW c1 c2 c3 c1 c2 c3 * dotW d1 d2 d3 d1 d2 d3))) (wrap64 (wrap64 (dotW c1 c2 c3 d1 d2 d3 * dotW c1 c2 c3 d1 d2 d3) * wrap64 (dotW a1 a2 a3 a1 a2 a3 * dotW b1 b2 b3 b1 b2 b3))))) ∧ Below w.heap.size w w' := by
  go_enter Tryz.func174, Tryz.ntmps174
  go_wp2_with fail
  have va : VecAt ((((w.alloc (.cells #[.int .i64 a1, .int .i64 a2, .int .i64 a3] 76)).alloc (.cells #[.int .i64 b1, .int .i64 b2, .int .i64 b3] 76)).alloc (.cells #[.int .i64 c1, .int .i64 c2, .int .i64 c3] 76)).alloc (.cells #[.int .i64 d1, .int .i64 d2, .int .i64 d3] 76)) w.heap.size a1 a2 a3 := ((((by simpa using vecAt_new w a1 a2 a3 76 : VecAt (w.alloc (.cells #[.int .i64 a1, .int .i64 a2, .int .i64 a3] 76)) w.heap.size a1 a2 a3).alloc (by simp <;> omega) _).alloc (by simp <;> omega) _).alloc (by simp <;> omega) _)
  have vb : VecAt ((((w.alloc (.cells #[.int .i64 a1, .int .i64 a2, .int .i64 a3] 76)).alloc (.cells #[.int .i64 b1, .int .i64 b2, .int .i64 b3] 76)).alloc (.cells #[.int .i64 c1, .int .i64 c2, .int .i64 c3] 76)).alloc (.cells #[.int .i64 d1, .int .i64 d2, .int .i64 d3] 76)) (w.heap.size + 1) b1 b2 b3 := (((by simpa using vecAt_new (w.alloc (.cells #[.int .i64 a1, .int .i64 a2, .int .i64 a3] 76)) b1 b2 b3 76 : VecAt ((w.alloc (.cells #[.int .i64 a1, .int .i64 a2, .int .i64 a3] 76)).alloc (.cells #[.int .i64 b1, .int .i64 b2, .int .i64 b3] 76)) (w.heap.size + 1) b1 b2 b3).alloc (by simp <;> omega) _).alloc (by simp <;> omega) _)
  have vc : VecAt ((((w.alloc (.cells #[.int .i64 a1, .int .i64 a2, .int .i64 a3] 76)).alloc (.cells #[.int .i64 b1, .int .i64 b2, .int .i64 b3] 76)).alloc (.cells #[.int .i64 c1, .int .i64 c2, .int .i64 c3] 76)).alloc (.cells #[.int .i64 d1, .int .i64 d2, .int .i64 d3] 76)) (w.heap.size + 1 + 1) c1 c2 c3 := ((by simpa using vecAt_new ((w.alloc (.cells #[.int .i64 a1, .int .i64 a2, .int .i64 a3] 76)).alloc (.cells #[.int .i64 b1, .int .i64 b2, .int .i64 b3] 76)) c1 c2 c3 76 : VecAt (((w.alloc (.cells #[.int .i64 a1, .int .i64 a2, .int .i64 a3] 76)).alloc (.cells #[.int .i64 b1, .int .i64 b2, .int .i64 b3] 76)).alloc (.cells #[.int .i64 c1, .int .i64 c2, .int .i64 c3] 76)) (w.heap.size + 1 + 1) c1 c2 c3).alloc (by simp <;> omega) _)
  have vd : VecAt ((((w.alloc (.cells #[.int .i64 a1, .int .i64 a2, .int .i64 a3] 76)).alloc (.cells #[.int .i64 b1, .int .i64 b2, .int .i64 b3] 76)).alloc (.cells #[.int .i64 c1, .int .i64 c2, .int .i64 c3] 76)).alloc (.cells #[.int .i64 d1, .int .i64 d2, .int .i64 d3] 76)) (w.heap.size + 1 + 1 + 1) d1 d2 d3 := (by simpa using vecAt_new (((w.alloc (.cells #[.int .i64 a1, .int .i64 a2, .int .i64 a3] 76)).alloc (.cells #[.int .i64 b1, .int .i64 b2, .int .i64 b3] 76)).alloc (.cells #[.int .i64 c1, .int .i64 c2, .int .i64 c3] 76)) d1 d2 d3 76 : VecAt ((((w.alloc (.cells #[.int .i64 a1, .int .i64 a2, .int .i64 a3] 76)).alloc (.cells #[.int .i64 b1, .int .i64 b2, .int .i64 b3] 76)).alloc (.cells #[.int .i64 c1, .int .i64 c2, .int .i64 c3] 76)).alloc (.cells #[.int .i64 d1, .int .i64 d2, .int .i64 d3] 76)) (w.heap.size + 1 + 1 + 1) d1 d2 d3)
  have hB : Below w.heap.size w ((((w.alloc (.cells #[.int .i64 a1, .int .i64 a2, .int .i64 a3] 76)).alloc (.cells #[.int .i64 b1, .int .i64 b2, .int .i64 b3] 76)).alloc (.cells #[.int .i64 c1, .int .i64 c2, .int .i64 c3] 76)).alloc (.cells #[.int .i64 d1, .int .i64 d2, .int .i64 d3] 76)) := below4 _ _ _ _ _
  generalize ((((w.alloc (.cells #[.int .i64 a1, .int .i64 a2, .int .i64 a3] 76)).alloc (.cells #[.int .i64 b1, .int .i64 b2, .int .i64 b3] 76)).alloc (.cells #[.int .i64 c1, .int .i64 c2, .int .i64 c3] 76)).alloc (.cells #[.int .i64 d1, .int .i64 d2, .int .i64 d3] 76)) = w1 at va vb vc vd hB ⊢
  have ha := va
  have hb := vb
  have hc := vc
  have hd := vd
  obtain ⟨ca0, ca1, ca2⟩ := va
  obtain ⟨cb0, cb1, cb2⟩ := vb
  obtain ⟨cc0, cc1, cc2⟩ := vc
  obtain ⟨cd0, cd1, cd2⟩ := vd
  refine (l02Dot_any a1 a2 a3 b1 b2 b3 _).mono ?_
  rintro e w2 ⟨rfl, hx⟩
  have va := ha.kept (VecAt.in ha) hx
  have vb := hb.kept (VecAt.in hb) hx
  have vc := hc.kept (VecAt.in hc) hx
  have vd := hd.kept (VecAt.in hd) hx
  replace hB := below_call hB hx
  clear ca0 ca1 ca2 cb0 cb1 cb2 cc0 cc1 cc2 cd0 cd1 cd2 ha hb hc hd hx
  have ha := va
  have hb := vb
  have hc := vc
  have hd := vd
  obtain ⟨ca0, ca1, ca2⟩ := va
  obtain ⟨cb0, cb1, cb2⟩ := vb
  obtain ⟨cc0, cc1, cc2⟩ := vc
  obtain ⟨cd0, cd1, cd2⟩ := vd
  go_wp2_with fail
  refine (l02Dot_any c1 c2 c3 d1 d2 d3 _).mono ?_
  rintro e w3 ⟨rfl, hx⟩
  have va := ha.kept (VecAt.in ha) hx
  have vb := hb.kept (VecAt.in hb) hx
  have vc := hc.kept (VecAt.in hc) hx
  have vd := hd.kept (VecAt.in hd) hx
  replace hB := below_call hB hx
  clear ca0 ca1 ca2 cb0 cb1 cb2 cc0 cc1 cc2 cd0 cd1 cd2 ha hb hc hd hx
  have ha := va
  have hb := vb
  have hc := vc
  have hd := vd
  obtain ⟨ca0, ca1, ca2⟩ := va
  obtain ⟨cb0, cb1, cb2⟩ := vb
  obtain ⟨cc0, cc1, cc2⟩ := vc
  obtain ⟨cd0, cd1, cd2⟩ := vd
  generalize hxe : dotW a1 a2 a3 b1 b2 b3 = x
  generalize hye : dotW c1 c2 c3 d1 d2 d3 = y
  have HX := yz hxe
  have HY := yz hye
  clear hxe hye
  go_wp2_with fail
  refine (l02Sign_any x _).mono ?_
  rintro e w3 ⟨rfl, rfl⟩
  go_wp2_with fail
  refine (l02Sign_any y _).mono ?_
  rintro e w3 ⟨rfl, rfl⟩
  by_cases hs : sgn x = sgn y
  · have hse : (sgn x == sgn y) = true := by simp [hs]
    go_wp2_with fail
    have kc0 := cell_regrown cc0
    have kc1 := cell_regrown cc1
    have kc2 := cell_regrown cc2
    have kd0 := cell_regrown cd0
    have kd1 := cell_regrown cd1
    have kd2 := cell_regrown cd2
    refine wp_region_quiet_below (by kernel_rfl) (by kernel_rfl) ?_
    repeat (quiet_step (first | exact Calls.regrown_of (l02Dot_any _ _ _ _ _ _ _) | fail))
    refine wpQuiet_nil ?_
    intro _ hw'
    obtain ⟨⟨dq, osq⟩, hw''⟩ := hw'
    subst hw''
    have hx := below_regrown w3 dq osq
    generalize grow (redrawn w3 dq) osq = w4 at hx ⊢
    clear kc0 kc1 kc2 kd0 kd1 kd2
    have va := ha.kept (VecAt.in ha) hx
    have vb := hb.kept (VecAt.in hb) hx
    have vc := hc.kept (VecAt.in hc) hx
    have vd := hd.kept (VecAt.in hd) hx
    replace hB := below_call hB hx
    clear ca0 ca1 ca2 cb0 cb1 cb2 cc0 cc1 cc2 cd0 cd1 cd2 ha hb hc hd hx
    have ha := va
    have hb := vb
    have hc := vc
    have hd := vd
    obtain ⟨ca0, ca1, ca2⟩ := va
    obtain ⟨cb0, cb1, cb2⟩ := vb
    obtain ⟨cc0, cc1, cc2⟩ := vc
    obtain ⟨cd0, cd1, cd2⟩ := vd
    go_wp2_with fail
    have ka0 := cell_regrown ca0
    have ka1 := cell_regrown ca1
    have ka2 := cell_regrown ca2
    have kb0 := cell_regrown cb0
    have kb1 := cell_regrown cb1
    have kb2 := cell_regrown cb2
    refine wp_region_quiet_below (by kernel_rfl) (by kernel_rfl) ?_
    repeat (quiet_step (first | exact Calls.regrown_of (l02Dot_any _ _ _ _ _ _ _) | fail))
    refine wpQuiet_nil ?_
    intro _ hw'
    obtain ⟨⟨dq, osq⟩, hw''⟩ := hw'
    subst hw''
    have hx := below_regrown w4 dq osq
    generalize grow (redrawn w4 dq) osq = w5 at hx ⊢
    clear ka0 ka1 ka2 kb0 kb1 kb2
    have va := ha.kept (VecAt.in ha) hx
    have vb := hb.kept (VecAt.in hb) hx
    have vc := hc.kept (VecAt.in hc) hx
    have vd := hd.kept (VecAt.in hd) hx
    replace hB := below_call hB hx
    clear ca0 ca1 ca2 cb0 cb1 cb2 cc0 cc1 cc2 cd0 cd1 cd2 ha hb hc hd hx
    have ha := va
    have hb := vb
    have hc := vc
    have hd := vd
    obtain ⟨ca0, ca1, ca2⟩ := va
    obtain ⟨cb0, cb1, cb2⟩ := vb
    obtain ⟨cc0, cc1, cc2⟩ := vc
    obtain ⟨cd0, cd1, cd2⟩ := vd
    clear ha hb hc hd ca0 ca1 ca2 cb0 cb1 cb2 cc0 cc1 cc2 cd0 cd1 cd2
    simp only [Go.IntWalk.i64_left]
    generalize hpe : wrap64 (wrap64 (x * x) * wrap64 (dotW c1 c2 c3 c1 c2 c3 * dotW d1 d2 d3 d1 d2 d3)) = p
    generalize hqe : wrap64 (wrap64 (y * y) * wrap64 (dotW a1 a2 a3 a1 a2 a3 * dotW b1 b2 b3 b1 b2 b3)) = q
    have HP := yz hpe
    have HQ := yz hqe
    have HS := yz hs
    clear hpe hqe
    by_cases h1 : p < q
    · have HE := yz (show cosS x y p q = wrap64 (-sgn x) by unfold cosS; rw [if_neg (by simp [hs]), if_pos h1])
      clear hs hse
      go_wp2_with fail
      refine (l02Sign_any x _).mono ?_
      rintro e w5 ⟨rfl, rfl⟩
      go_wp2_with fail
      go_ret
      exact ⟨by rw [yy HX, yy HY, yy HP, yy HQ, yy HE]; rfl, hB⟩
    · by_cases h2 : q < p
      · have HE := yz (show cosS x y p q = sgn x by unfold cosS; rw [if_neg (by simp [hs]), if_neg h1, if_pos h2])
        clear hs hse
        go_wp2_with fail
        refine (l02Sign_any x _).mono ?_
        rintro e w5 ⟨rfl, rfl⟩
        go_wp2_with fail
        go_ret
        exact ⟨by rw [yy HX, yy HY, yy HP, yy HQ, yy HE]; rfl, hB⟩
      · have HE := yz (show cosS x y p q = 0 by unfold cosS; rw [if_neg (by simp [hs]), if_neg h1, if_neg h2])
        clear hs hse
        go_wp2_with fail
        go_ret
        exact ⟨by rw [yy HX, yy HY, yy HP, yy HQ, yy HE]; rfl, hB⟩
  · have hse : (sgn x == sgn y) = false := by simp [hs]
    go_wp2_with fail
    refine (l02Sign_any x _).mono ?_
    rintro e w3 ⟨rfl, rfl⟩
    go_wp2_with fail
    refine (l02Sign_any y _).mono ?_
    rintro e w3 ⟨rfl, rfl⟩
    go_wp2_with fail
    refine (l02Sign_any _ _).mono ?_
    rintro e w3 ⟨rfl, rfl⟩
    go_wp2_with fail
    go_ret
    exact ⟨by unfold cosS; rw [yy HX, yy HY, if_pos hs]; rfl, hB⟩
abbrev V3 := Int × Int × Int
def PairAt (w : World) (b : Nat) (x y : Int) : Prop := w.cell? ⟨b, 0, none⟩ = some (.int .i64 x) ∧ w.cell? ⟨b, 1, none⟩ = some (.int .i64 y)
theorem PairAt.kept {w w' : World} {b : Nat} {x y : Int} (h : PairAt w b x y) (hB : Below w.heap.size w w') : PairAt w' b x y := by
  have hb := World.block_lt_of_cell? w _ h.1
  exact ⟨by rw [hB.cell (p := ⟨b, 0, none⟩) hb]; exact h.1, by rw [hB.cell (p := ⟨b, 1, none⟩) hb]; exact h.2⟩
end Go.Proofs.YtofpjlhoppofdaaGreatDoor
namespace Go.Proofs.YtofpjlhoppofdaaGreatDoor
open Go.RowKit
set_option linter.unusedVariables false
theorem VecAt.lt' {w : World} {b : Nat} {x y z : Int} (h : VecAt w b x y z) : b < w.heap.size := World.block_lt_of_cell? w _ h.1
theorem stepCall {w1 wx wn : World} {X : Prop} (hx : Below wx.heap.size wx wn) (h : X ∧ Below w1.heap.size w1 wx) : Below w1.heap.size w1 wn := below_call h.2 hx
def Resv (w : World) (b : Nat) : Prop := VecAt w b 0 0 0 ∧ FreeAt w b
theorem newVec {wy wn : World} {t : TypeId} (hx : Below (wy.alloc (.cells #[.int .i64 0, .int .i64 0, .int .i64 0] t)).heap.size (wy.alloc (.cells #[.int .i64 0, .int .i64 0, .int .i64 0] t)) wn) : Resv wn wy.heap.size :=
  ⟨(vecAt_new wy 0 0 0 t).kept (by simp) hx, (freeAt_new wy 0 0 0 t).kept (by simp) hx⟩
theorem newVecD {wy wn : World} {t : TypeId} (hx : Below ((wy.alloc (.cells #[.int .i64 0, .int .i64 0, .int .i64 0] t)).drew).heap.size ((wy.alloc (.cells #[.int .i64 0, .int .i64 0, .int .i64 0] t)).drew) wn) : Resv wn wy.heap.size :=
  ⟨(show VecAt (wy.alloc (.cells #[.int .i64 0, .int .i64 0, .int .i64 0] t)).drew wy.heap.size 0 0 0 from vecAt_new wy 0 0 0 t).kept (by simp) hx, (show FreeAt (wy.alloc (.cells #[.int .i64 0, .int .i64 0, .int .i64 0] t)).drew wy.heap.size from freeAt_new wy 0 0 0 t).kept (by simp) hx⟩
theorem keptVec {wx wn : World} {b : Nat} (h : Resv wx b) (hx : Below wx.heap.size wx wn) : Resv wn b := ⟨h.1.kept (VecAt.lt' h.1) hx, h.2.kept (VecAt.lt' h.1) hx⟩
theorem stepAlloc2 {w1 wx : World} (h : Below w1.heap.size w1 wx) (o : Obj) : Below w1.heap.size w1 (wx.alloc o) := h.alloc h.size _
theorem vecAt_set3 {w : World} {b : Nat} (h : Resv w b) (x y z : Int) : VecAt (((w.setCell ⟨b, 0, none⟩ (.int .i64 x)).setCell ⟨b, 1, none⟩ (.int .i64 y)).setCell ⟨b, 2, none⟩ (.int .i64 z)) b x y z := by
  obtain ⟨⟨h0, h1, h2⟩, _⟩ := h
  refine ⟨?_, ?_, ?_⟩ <;> simp [go_sem, h0, h1, h2]
theorem below_set3' {w1 wx : World} {b : Nat} (h : Below w1.heap.size w1 wx) (hb : w1.heap.size ≤ b) (x y z : Value) : Below w1.heap.size w1 (((wx.setCell ⟨b, 0, none⟩ x).setCell ⟨b, 1, none⟩ y).setCell ⟨b, 2, none⟩ z) := ((h.setCell hb _).setCell hb _).setCell hb _
theorem stepAlloc {w1 wx : World} {X : Prop} (h : X ∧ Below w1.heap.size w1 wx) (o : Obj) : Below w1.heap.size w1 (wx.alloc o) := h.2.alloc h.2.size _
theorem stepSet3 {w1 wx : World} {X : Prop} {b : Nat} (h : X ∧ Below w1.heap.size w1 wx) (hb : w1.heap.size ≤ b) (x y z : Value) : Below w1.heap.size w1 (((wx.setCell ⟨b, 0, none⟩ x).setCell ⟨b, 1, none⟩ y).setCell ⟨b, 2, none⟩ z) := ((h.2.setCell hb _).setCell hb _).setCell hb _
end Go.Proofs.YtofpjlhoppofdaaGreatDoor
namespace Go.Proofs.YtofpjlhoppofdaaGreatDoor
open Go.RowKit Go.Sort
set_option linter.unusedVariables false
abbrev P2 := Int × Int
abbrev Sp := P2 × V3 × V3
def SpanAt (w : World) (b : Nat) (x y a1 a2 a3 b1 b2 b3 : Int) : Prop := w.cell? ⟨b, 0, none⟩ = some (.int .i64 x) ∧ w.cell? ⟨b, 1, none⟩ = some (.int .i64 y) ∧ w.cell? ⟨b, 2, none⟩ = some (.int .i64 a1) ∧ w.cell? ⟨b, 3, none⟩ = some (.int .i64 a2) ∧ w.cell? ⟨b, 4, none⟩ = some (.int .i64 a3) ∧ w.cell? ⟨b, 5, none⟩ = some (.int .i64 b1) ∧ w.cell? ⟨b, 6, none⟩ = some (.int .i64 b2) ∧ w.cell? ⟨b, 7, none⟩ = some (.int .i64 b3)
theorem SpanAt.kept {w w' : World} {b : Nat} {x y a1 a2 a3 b1 b2 b3 : Int} (h : SpanAt w b x y a1 a2 a3 b1 b2 b3) (hB : Below w.heap.size w w') : SpanAt w' b x y a1 a2 a3 b1 b2 b3 := by
  have hb := World.block_lt_of_cell? w _ h.1
  obtain ⟨h0, h1, h2, h3, h4, h5, h6, h7⟩ := h
  exact ⟨by rw [hB.cell (p := ⟨b, 0, none⟩) hb]; exact h0, by rw [hB.cell (p := ⟨b, 1, none⟩) hb]; exact h1, by rw [hB.cell (p := ⟨b, 2, none⟩) hb]; exact h2, by rw [hB.cell (p := ⟨b, 3, none⟩) hb]; exact h3, by rw [hB.cell (p := ⟨b, 4, none⟩) hb]; exact h4, by rw [hB.cell (p := ⟨b, 5, none⟩) hb]; exact h5, by rw [hB.cell (p := ⟨b, 6, none⟩) hb]; exact h6, by rw [hB.cell (p := ⟨b, 7, none⟩) hb]; exact h7⟩
def SpOff (w : World) (b o : Nat) (s : Sp) : Prop := w.cell? ⟨b, o, none⟩ = some (.int .i64 s.1.1) ∧ w.cell? ⟨b, o + 1, none⟩ = some (.int .i64 s.1.2) ∧ w.cell? ⟨b, o + 2, none⟩ = some (.int .i64 s.2.1.1) ∧ w.cell? ⟨b, o + 3, none⟩ = some (.int .i64 s.2.1.2.1) ∧ w.cell? ⟨b, o + 4, none⟩ = some (.int .i64 s.2.1.2.2) ∧ w.cell? ⟨b, o + 5, none⟩ = some (.int .i64 s.2.2.1) ∧ w.cell? ⟨b, o + 6, none⟩ = some (.int .i64 s.2.2.2.1) ∧ w.cell? ⟨b, o + 7, none⟩ = some (.int .i64 s.2.2.2.2)
theorem SpOff.kept {w w' : World} {b o : Nat} {s : Sp} (h : SpOff w b o s) (hB : Below w.heap.size w w') : SpOff w' b o s := by
  have hb : b < w.heap.size := World.block_lt_of_cell? w _ h.1
  obtain ⟨h0, h1, h2, h3, h4, h5, h6, h7⟩ := h
  exact ⟨by rw [hB.cell (p := ⟨b, o, none⟩) hb]; exact h0, by rw [hB.cell (p := ⟨b, o + 1, none⟩) hb]; exact h1, by rw [hB.cell (p := ⟨b, o + 2, none⟩) hb]; exact h2, by rw [hB.cell (p := ⟨b, o + 3, none⟩) hb]; exact h3, by rw [hB.cell (p := ⟨b, o + 4, none⟩) hb]; exact h4, by rw [hB.cell (p := ⟨b, o + 5, none⟩) hb]; exact h5, by rw [hB.cell (p := ⟨b, o + 6, none⟩) hb]; exact h6, by rw [hB.cell (p := ⟨b, o + 7, none⟩) hb]; exact h7⟩
theorem sq_fits {p q r P Q : Int} (h1 : -P ≤ p ∧ p ≤ P) (h2 : -Q ≤ q ∧ q ≤ Q) (h3 : -Q ≤ r ∧ r ≤ Q) (k1 : P * P ≤ 9223372036854775807) (k3 : Q * Q ≤ 9223372036854775807) (k4 : (P * P) * (Q * Q) ≤ 9223372036854775807) :
    wrap64 (wrap64 (p * p) * wrap64 (q * r)) = p * p * (q * r) := by
  have m1 := mulB h1 h1
  have m2 := mulB h2 h3
  have m3 := mulB m1 m2
  rw [wrap_id (n := p * p) (by omega) (by omega), wrap_id (n := q * r) (by omega) (by omega), wrap_id (by omega) (by omega)]
theorem cos_eq2 {a1 a2 a3 b1 b2 b3 c1 c2 c3 d1 d2 d3 : Int} (ha : wideB a1 a2 a3 = true) (hb : wideB b1 b2 b3 = true) (hc : smallB c1 c2 c3 = true) (hd : smallB d1 d2 d3 = true) :
    cosI a1 a2 a3 b1 b2 b3 c1 c2 c3 d1 d2 d3 = cosS (dotW a1 a2 a3 b1 b2 b3) (dotW c1 c2 c3 d1 d2 d3) (wrap64 (wrap64 (dotW a1 a2 a3 b1 b2 b3 * dotW a1 a2 a3 b1 b2 b3) * wrap64 (dotW c1 c2 c3 c1 c2 c3 * dotW d1 d2 d3 d1 d2 d3))) (wrap64 (wrap64 (dotW c1 c2 c3 d1 d2 d3 * dotW c1 c2 c3 d1 d2 d3) * wrap64 (dotW a1 a2 a3 a1 a2 a3 * dotW b1 b2 b3 b1 b2 b3))) := by
  have wa := (wideB_iff ha).2
  have wb := (wideB_iff hb).2
  have wc := (smallB_iff hc).2
  have wd := (smallB_iff hd).2
  have pa := sq_pos (rightB_iff.1 (wideB_iff ha).1).2
  have pb := sq_pos (rightB_iff.1 (wideB_iff hb).1).2
  have pc := sq_pos (rightB_iff.1 (smallB_iff hc).1).2
  have pd := sq_pos (rightB_iff.1 (smallB_iff hd).1).2
  unfold cosI
  rw [ha, hb, hc, hd, if_pos (by rfl)]
  rw [dotW_eq wa wb (by omega), dotW_eq wc wc (by omega), dotW_eq wd wd (by omega), dotW_eq wc wd (by omega), dotW_eq wa wa (by omega), dotW_eq wb wb (by omega)]
  have x1 := dot_bound wa wb
  have x2 := dot_bound wc wc
  have x3 := dot_bound wd wd
  have x4 := dot_bound wc wd
  have x5 := dot_bound wa wa
  have x6 := dot_bound wb wb
  rw [sq_fits (P := 9720000) (Q := 300) (by omega) (by omega) (by omega) (by omega) (by omega) (by omega), sq_fits (P := 300) (Q := 9720000) (by omega) (by omega) (by omega) (by omega) (by omega) (by omega)]
  exact (cos_spec (Int.mul_pos pc pd) (Int.mul_pos pa pb)).symm
theorem ok_up {L : List St} {i : Nat} (h : okAt L i = true) (hi : 0 < i) : (stA L (i - 1)).1 < (stA L i).1 := by
  unfold okAt upB at h
  simp only [Bool.and_eq_true, Bool.or_eq_true, decide_eq_true_eq] at h
  omega
theorem ids_rise {L : List St} (h : skyB L = true) : ∀ i, i < L.length → ∀ j, j < i → (stA L j).1 < (stA L i).1
  | 0, _, j, hj => absurd hj (Nat.not_lt_zero _)
  | i + 1, hi, j, hj => by
    have hu := ok_up ((sky_ok h).2 (i + 1) hi) (by omega)
    rw [Nat.add_sub_cancel] at hu
    by_cases e : j = i
    · subst e; exact hu
    · have := ids_rise h i (by omega) j (by omega)
      omega
theorem at_own {L : List St} (h : skyB L = true) {i : Nat} (hi : i < L.length) : atV L L.length (stA L i).1 = (stA L i).2 :=
  at_hit hi (fun j hj e => by have := ids_rise h i hi j hj; omega) rfl
end Go.Proofs.YtofpjlhoppofdaaGreatDoor
