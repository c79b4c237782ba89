/- Several texts in one: TurnMath, TurnMath2, MaM, SkyA, SkyB, SkyC, SkyD. -/
import Derived.Test.YteoonaanoenjiaaGreatDoorChecked
import Derived.WalkKit
import Derived.LaidEql
import Derived.Stop.Asserts
import Derived.RowKitTokens
import Derived.Lib.QuietBelow
import Derived.BigQuiet
import Derived.Test.YteoonaanoenjiaaGreatDoorQObeyOwn1
import Derived.Test.YteoonaanoenjiaaGreatDoorQObeyOwn6
import Derived.Test.YteoonaanoenjiaaGreatDoorQObeyOwn3
import Derived.Test.YteoonaanoenjiaaGreatDoorQObeyOwn4
namespace Go.Proofs.YteoonaanoenjiaaGreatDoor
open Go.RowKit
set_option linter.unusedVariables false
def inT (m a b c d : Int) : Bool := inB m a && inB m b && inB m c && inB m d
def zeroT (a b c d : Int) : Bool := decide (a = 0 ∧ b = 0 ∧ c = 0 ∧ d = 0)
def fT (a b c d : Int) : Int := if a ≠ 0 then a else if b ≠ 0 then b else if c ≠ 0 then c else d
def gT (a b c d : Int) : Int := ((Int.gcd ((Int.gcd a b : Nat) : Int) ((Int.gcd c d : Nat) : Int) : Nat) : Int)
def sT (a b c d : Int) : Int := if fT a b c d < 0 then -gT a b c d else gT a b c d
def rightT (a b c d : Int) : Bool := inT 5 a b c d && decide (0 < fT a b c d) && decide (gT a b c d = 1)
def eqT (a b c d a' b' c' d' : Int) : Bool := decide (a = a' ∧ b = b' ∧ c = c' ∧ d = d')
theorem inT_iff {m a b c d : Int} : inT m a b c d = true ↔ (-m ≤ a ∧ a ≤ m) ∧ (-m ≤ b ∧ b ≤ m) ∧ (-m ≤ c ∧ c ≤ m) ∧ (-m ≤ d ∧ d ≤ m) := by
  simp [inT, inB_iff, and_assoc]
theorem inT_mono {m n a b c d : Int} (h : inT m a b c d = true) (hmn : m ≤ n) : inT n a b c d = true := by
  rw [inT_iff] at h ⊢; omega
theorem fT_zero {a b c d : Int} : fT a b c d = 0 ↔ (a = 0 ∧ b = 0 ∧ c = 0 ∧ d = 0) := by
  unfold fT
  split
  · omega
  · split
    · omega
    · split <;> omega
theorem fT_mem (a b c d : Int) : fT a b c d = a ∨ fT a b c d = b ∨ fT a b c d = c ∨ fT a b c d = d := by
  unfold fT
  split
  · exact .inl rfl
  · split
    · exact .inr (.inl rfl)
    · split
      · exact .inr (.inr (.inl rfl))
      · exact .inr (.inr (.inr rfl))
theorem gT_nonneg (a b c d : Int) : 0 ≤ gT a b c d := Int.natCast_nonneg _
theorem gT_pos {a b c d : Int} (h : ¬ (a = 0 ∧ b = 0 ∧ c = 0 ∧ d = 0)) : 0 < gT a b c d := by
  unfold gT
  have h2 : Int.gcd ((Int.gcd a b : Nat) : Int) ((Int.gcd c d : Nat) : Int) ≠ 0 := by
    intro e
    rw [Int.gcd_eq_zero_iff] at e
    have e1 : Int.gcd a b = 0 := by omega
    have e2 : Int.gcd c d = 0 := by omega
    rw [Int.gcd_eq_zero_iff] at e1 e2
    exact h ⟨e1.1, e1.2, e2.1, e2.2⟩
  omega
theorem gcd_four (a b c d : Int) : ((Int.gcd ((Int.gcd ((Int.gcd ((Int.gcd 0 a : Nat) : Int) b : Nat) : Int) c : Nat) : Int) d : Nat) : Int) = gT a b c d := by
  unfold gT
  have h1 : Int.gcd ((Int.gcd 0 a : Nat) : Int) b = Int.gcd a b := by
    rw [Int.gcd_zero_left]
    show Nat.gcd (a.natAbs : Int).natAbs b.natAbs = Nat.gcd a.natAbs b.natAbs
    rw [Int.natAbs_natCast]
  rw [h1]
  show ((Nat.gcd (Nat.gcd (Int.gcd a b) c.natAbs) d.natAbs : Nat) : Int) = ((Nat.gcd (Int.gcd a b) (Nat.gcd c.natAbs d.natAbs) : Nat) : Int)
  rw [Nat.gcd_assoc]
theorem sT_ne {a b c d : Int} (h : ¬ (a = 0 ∧ b = 0 ∧ c = 0 ∧ d = 0)) : sT a b c d ≠ 0 := by
  have := gT_pos h
  unfold sT
  split <;> omega
theorem tdiv_self_eq {f s : Int} (hf : f ≠ 0) (h : f.tdiv s = f) : s = 1 := by
  have hn : f.natAbs / s.natAbs = f.natAbs := by
    have e : (f.tdiv s).natAbs = f.natAbs / s.natAbs := Int.natAbs_tdiv f s
    rw [← e, h]
  have h0 : s.natAbs ≠ 0 := by
    intro e
    rw [e, Nat.div_zero] at hn
    omega
  have h1 : s.natAbs < 2 := by
    rcases Nat.lt_or_ge s.natAbs 2 with h | h
    · exact h
    · have := Nat.div_lt_self (n := f.natAbs) (k := s.natAbs) (by omega) h
      omega
  rcases (show s = 1 ∨ s = -1 by omega) with e | e
  · exact e
  · rw [e, Int.tdiv_neg, Int.tdiv_one] at h
    omega
theorem tdiv_le {m x s : Int} (hx : -m ≤ x ∧ x ≤ m) : -m ≤ x.tdiv s ∧ x.tdiv s ≤ m := by
  have h : (x.tdiv s).natAbs ≤ x.natAbs := by rw [Int.natAbs_tdiv]; exact Nat.div_le_self _ _
  omega
theorem right_reduced {a b c d : Int} (hz : ¬ (a = 0 ∧ b = 0 ∧ c = 0 ∧ d = 0)) :
    eqT a b c d (a.tdiv (sT a b c d)) (b.tdiv (sT a b c d)) (c.tdiv (sT a b c d)) (d.tdiv (sT a b c d)) = (decide (0 < fT a b c d) && decide (gT a b c d = 1)) := by
  have hf : fT a b c d ≠ 0 := fun e => hz (fT_zero.1 e)
  rw [Bool.eq_iff_iff, Bool.and_eq_true, decide_eq_true_iff, decide_eq_true_iff]
  unfold eqT
  rw [decide_eq_true_iff]
  constructor
  · rintro ⟨h1, h2, h3, h4⟩
    have hs : sT a b c d = 1 := by
      rcases fT_mem a b c d with e | e | e | e
      · exact tdiv_self_eq (e ▸ hf) h1.symm
      · exact tdiv_self_eq (e ▸ hf) h2.symm
      · exact tdiv_self_eq (e ▸ hf) h3.symm
      · exact tdiv_self_eq (e ▸ hf) h4.symm
    have hg := gT_nonneg a b c d
    unfold sT at hs
    split at hs <;> omega
  · rintro ⟨h1, h2⟩
    have hs : sT a b c d = 1 := by unfold sT; rw [if_neg (by omega), h2]
    rw [hs]
    simp [Int.tdiv_one]
theorem rightT_iff {a b c d : Int} : rightT a b c d = true ↔ inT 5 a b c d = true ∧ 0 < fT a b c d ∧ gT a b c d = 1 := by
  simp [rightT, and_assoc]
theorem rightT_ne {a b c d : Int} (h : rightT a b c d = true) : ¬ (a = 0 ∧ b = 0 ∧ c = 0 ∧ d = 0) := by
  have := (rightT_iff.1 h).2.1
  intro e
  rw [fT_zero.2 e] at this
  omega
def ofC (a b c d : Int) : Int :=
  if inT 1000 a b c d && !zeroT a b c d then
    if rightT (a.tdiv (sT a b c d)) (b.tdiv (sT a b c d)) (c.tdiv (sT a b c d)) (d.tdiv (sT a b c d)) then 0 else 9
  else 1
def ofP (a b c d x : Int) : Int := if ofC a b c d = 0 then x.tdiv (sT a b c d) else 0
theorem ofC_form {a b c d : Int} (h : (inT 1000 a b c d && !zeroT a b c d) = false) : ofC a b c d = 1 := by unfold ofC; rw [h]; rfl
theorem zeroT_iff {a b c d : Int} : zeroT a b c d = true ↔ (a = 0 ∧ b = 0 ∧ c = 0 ∧ d = 0) := by simp [zeroT]
def nT (a b c d : Int) : Int := a * a + b * b + c * c + d * d
theorem sqn (x : Int) : 0 ≤ x * x := by rw [← Int.natAbs_mul_self' x]; exact Int.natCast_nonneg _
theorem sqp {x : Int} (h : x ≠ 0) : 0 < x * x := by
  have := sqn x
  have : x * x ≠ 0 := fun e => by rcases Int.mul_eq_zero.1 e with e | e <;> exact h e
  omega
theorem nT_pos {a b c d : Int} (h : ¬ (a = 0 ∧ b = 0 ∧ c = 0 ∧ d = 0)) : 0 < nT a b c d := by
  have h1 := sqn a
  have h2 := sqn b
  have h3 := sqn c
  have h4 := sqn d
  unfold nT
  by_cases ha : a = 0
  · by_cases hb : b = 0
    · by_cases hc : c = 0
      · have := sqp (x := d) (fun e => h ⟨ha, hb, hc, e⟩); omega
      · have := sqp hc; omega
    · have := sqp hb; omega
  · have := sqp ha; omega
theorem nT_le {a b c d : Int} (h : inT 5 a b c d = true) : nT a b c d ≤ 100 := by
  rw [inT_iff] at h
  have h1 := mulB h.1 h.1
  have h2 := mulB h.2.1 h.2.1
  have h3 := mulB h.2.2.1 h.2.2.1
  have h4 := mulB h.2.2.2 h.2.2.2
  unfold nT
  omega
def apX (a b c d x y z : Int) : Int := (a * a + b * b - c * c - d * d) * x + 2 * (b * c - a * d) * y + 2 * (b * d + a * c) * z
def apY (a b c d x y z : Int) : Int := 2 * (b * c + a * d) * x + (a * a - b * b + c * c - d * d) * y + 2 * (c * d - a * b) * z
def apZ (a b c d x y z : Int) : Int := 2 * (b * d - a * c) * x + 2 * (c * d + a * b) * y + (a * a - b * b - c * c + d * d) * z
theorem ap_dot (a b c d x y z x' y' z' : Int) :
    dot (apX a b c d x y z) (apY a b c d x y z) (apZ a b c d x y z) (apX a b c d x' y' z') (apY a b c d x' y' z') (apZ a b c d x' y' z') = nT a b c d * nT a b c d * dot x y z x' y' z' := by
  unfold dot apX apY apZ nT
  grind
def coA (s1 s2 s3 s4 t1 t2 t3 t4 : Int) : Int := s1 * t1 - s2 * t2 - s3 * t3 - s4 * t4
def coB (s1 s2 s3 s4 t1 t2 t3 t4 : Int) : Int := s1 * t2 + s2 * t1 + s3 * t4 - s4 * t3
def coC (s1 s2 s3 s4 t1 t2 t3 t4 : Int) : Int := s1 * t3 - s2 * t4 + s3 * t1 + s4 * t2
def coD (s1 s2 s3 s4 t1 t2 t3 t4 : Int) : Int := s1 * t4 + s2 * t3 - s3 * t2 + s4 * t1
theorem apW_X {a b c d x y z : Int} (ht : inT 5 a b c d = true) (hv : withinB 1800 x y z = true) :
    wrap64 (wrap64 (wrap64 (wrap64 (wrap64 (wrap64 (wrap64 (a * a) + wrap64 (b * b)) - wrap64 (c * c)) - wrap64 (d * d)) * x) + wrap64 (wrap64 (2 * wrap64 (wrap64 (b * c) - wrap64 (a * d))) * y)) + wrap64 (wrap64 (2 * wrap64 (wrap64 (b * d) + wrap64 (a * c))) * z)) = apX a b c d x y z := by
  obtain ⟨ha, hb, hc, hd⟩ := inT_iff.1 ht
  have h1 := mulB ha ha
  have h2 := mulB hb hb
  have h3 := mulB hc hc
  have h4 := mulB hd hd
  have h5 := mulB hb hc
  have h6 := mulB ha hd
  have h7 := mulB hb hd
  have h8 := mulB ha hc
  rw [wrap_id (n := a * a) (by omega) (by omega), wrap_id (n := b * b) (by omega) (by omega), wrap_id (n := c * c) (by omega) (by omega), wrap_id (n := d * d) (by omega) (by omega), wrap_id (n := b * c) (by omega) (by omega), wrap_id (n := a * d) (by omega) (by omega), wrap_id (n := b * d) (by omega) (by omega), wrap_id (n := a * c) (by omega) (by omega),
    wrap_id (n := a * a + b * b) (by omega) (by omega), wrap_id (n := a * a + b * b - c * c) (by omega) (by omega), wrap_id (n := a * a + b * b - c * c - d * d) (by omega) (by omega), wrap_id (n := b * c - a * d) (by omega) (by omega), wrap_id (n := b * d + a * c) (by omega) (by omega), wrap_id (n := 2 * (b * c - a * d)) (by omega) (by omega), wrap_id (n := 2 * (b * d + a * c)) (by omega) (by omega)]
  exact dotW_eq (A := 100) (B := 1800) (withinB_iff.2 ⟨by omega, by omega, by omega⟩) hv (by omega)
theorem apW_Y {a b c d x y z : Int} (ht : inT 5 a b c d = true) (hv : withinB 1800 x y z = true) :
    wrap64 (wrap64 (wrap64 (wrap64 (2 * wrap64 (wrap64 (b * c) + wrap64 (a * d))) * x) + wrap64 (wrap64 (wrap64 (wrap64 (wrap64 (a * a) - wrap64 (b * b)) + wrap64 (c * c)) - wrap64 (d * d)) * y)) + wrap64 (wrap64 (2 * wrap64 (wrap64 (c * d) - wrap64 (a * b))) * z)) = apY a b c d x y z := by
  obtain ⟨ha, hb, hc, hd⟩ := inT_iff.1 ht
  have h1 := mulB ha ha
  have h2 := mulB hb hb
  have h3 := mulB hc hc
  have h4 := mulB hd hd
  have h5 := mulB hb hc
  have h6 := mulB ha hd
  have h7 := mulB hc hd
  have h8 := mulB ha hb
  rw [wrap_id (n := a * a) (by omega) (by omega), wrap_id (n := b * b) (by omega) (by omega), wrap_id (n := c * c) (by omega) (by omega), wrap_id (n := d * d) (by omega) (by omega), wrap_id (n := b * c) (by omega) (by omega), wrap_id (n := a * d) (by omega) (by omega), wrap_id (n := c * d) (by omega) (by omega), wrap_id (n := a * b) (by omega) (by omega),
    wrap_id (n := a * a - b * b) (by omega) (by omega), wrap_id (n := a * a - b * b + c * c) (by omega) (by omega), wrap_id (n := a * a - b * b + c * c - d * d) (by omega) (by omega), wrap_id (n := b * c + a * d) (by omega) (by omega), wrap_id (n := c * d - a * b) (by omega) (by omega), wrap_id (n := 2 * (b * c + a * d)) (by omega) (by omega), wrap_id (n := 2 * (c * d - a * b)) (by omega) (by omega)]
  exact dotW_eq (A := 100) (B := 1800) (withinB_iff.2 ⟨by omega, by omega, by omega⟩) hv (by omega)
theorem apW_Z {a b c d x y z : Int} (ht : inT 5 a b c d = true) (hv : withinB 1800 x y z = true) :
    wrap64 (wrap64 (wrap64 (wrap64 (2 * wrap64 (wrap64 (b * d) - wrap64 (a * c))) * x) + wrap64 (wrap64 (2 * wrap64 (wrap64 (c * d) + wrap64 (a * b))) * y)) + wrap64 (wrap64 (wrap64 (wrap64 (wrap64 (a * a) - wrap64 (b * b)) - wrap64 (c * c)) + wrap64 (d * d)) * z)) = apZ a b c d x y z := by
  obtain ⟨ha, hb, hc, hd⟩ := inT_iff.1 ht
  have h1 := mulB ha ha
  have h2 := mulB hb hb
  have h3 := mulB hc hc
  have h4 := mulB hd hd
  have h5 := mulB hb hd
  have h6 := mulB ha hc
  have h7 := mulB hc hd
  have h8 := mulB ha hb
  rw [wrap_id (n := a * a) (by omega) (by omega), wrap_id (n := b * b) (by omega) (by omega), wrap_id (n := c * c) (by omega) (by omega), wrap_id (n := d * d) (by omega) (by omega), wrap_id (n := b * d) (by omega) (by omega), wrap_id (n := a * c) (by omega) (by omega), wrap_id (n := c * d) (by omega) (by omega), wrap_id (n := a * b) (by omega) (by omega),
    wrap_id (n := a * a - b * b) (by omega) (by omega), wrap_id (n := a * a - b * b - c * c) (by omega) (by omega), wrap_id (n := a * a - b * b - c * c + d * d) (by omega) (by omega), wrap_id (n := b * d - a * c) (by omega) (by omega), wrap_id (n := c * d + a * b) (by omega) (by omega), wrap_id (n := 2 * (b * d - a * c)) (by omega) (by omega), wrap_id (n := 2 * (c * d + a * b)) (by omega) (by omega)]
  exact dotW_eq (A := 100) (B := 1800) (withinB_iff.2 ⟨by omega, by omega, by omega⟩) hv (by omega)
theorem coW_A {s1 s2 s3 s4 t1 t2 t3 t4 : Int} (hs : inT 5 s1 s2 s3 s4 = true) (ht : inT 5 t1 t2 t3 t4 = true) :
    wrap64 (wrap64 (wrap64 (wrap64 (s1 * t1) - wrap64 (s2 * t2)) - wrap64 (s3 * t3)) - wrap64 (s4 * t4)) = coA s1 s2 s3 s4 t1 t2 t3 t4 ∧ -100 ≤ coA s1 s2 s3 s4 t1 t2 t3 t4 ∧ coA s1 s2 s3 s4 t1 t2 t3 t4 ≤ 100 := by
  obtain ⟨ha, hb, hc, hd⟩ := inT_iff.1 hs
  obtain ⟨ka, kb, kc, kd⟩ := inT_iff.1 ht
  have h1 := mulB ha ka
  have h2 := mulB hb kb
  have h3 := mulB hc kc
  have h4 := mulB hd kd
  unfold coA
  rw [wrap_id (n := s1 * t1) (by omega) (by omega), wrap_id (n := s2 * t2) (by omega) (by omega), wrap_id (n := s3 * t3) (by omega) (by omega), wrap_id (n := s4 * t4) (by omega) (by omega), wrap_id (n := s1 * t1 - s2 * t2) (by omega) (by omega), wrap_id (n := s1 * t1 - s2 * t2 - s3 * t3) (by omega) (by omega), wrap_id (by omega) (by omega)]
  omega
theorem coW_B {s1 s2 s3 s4 t1 t2 t3 t4 : Int} (hs : inT 5 s1 s2 s3 s4 = true) (ht : inT 5 t1 t2 t3 t4 = true) :
    wrap64 (wrap64 (wrap64 (wrap64 (s1 * t2) + wrap64 (s2 * t1)) + wrap64 (s3 * t4)) - wrap64 (s4 * t3)) = coB s1 s2 s3 s4 t1 t2 t3 t4 ∧ -100 ≤ coB s1 s2 s3 s4 t1 t2 t3 t4 ∧ coB s1 s2 s3 s4 t1 t2 t3 t4 ≤ 100 := by
  obtain ⟨ha, hb, hc, hd⟩ := inT_iff.1 hs
  obtain ⟨ka, kb, kc, kd⟩ := inT_iff.1 ht
  have h1 := mulB ha kb
  have h2 := mulB hb ka
  have h3 := mulB hc kd
  have h4 := mulB hd kc
  unfold coB
  rw [wrap_id (n := s1 * t2) (by omega) (by omega), wrap_id (n := s2 * t1) (by omega) (by omega), wrap_id (n := s3 * t4) (by omega) (by omega), wrap_id (n := s4 * t3) (by omega) (by omega), wrap_id (n := s1 * t2 + s2 * t1) (by omega) (by omega), wrap_id (n := s1 * t2 + s2 * t1 + s3 * t4) (by omega) (by omega), wrap_id (by omega) (by omega)]
  omega
theorem coW_C {s1 s2 s3 s4 t1 t2 t3 t4 : Int} (hs : inT 5 s1 s2 s3 s4 = true) (ht : inT 5 t1 t2 t3 t4 = true) :
    wrap64 (wrap64 (wrap64 (wrap64 (s1 * t3) - wrap64 (s2 * t4)) + wrap64 (s3 * t1)) + wrap64 (s4 * t2)) = coC s1 s2 s3 s4 t1 t2 t3 t4 ∧ -100 ≤ coC s1 s2 s3 s4 t1 t2 t3 t4 ∧ coC s1 s2 s3 s4 t1 t2 t3 t4 ≤ 100 := by
  obtain ⟨ha, hb, hc, hd⟩ := inT_iff.1 hs
  obtain ⟨ka, kb, kc, kd⟩ := inT_iff.1 ht
  have h1 := mulB ha kc
  have h2 := mulB hb kd
  have h3 := mulB hc ka
  have h4 := mulB hd kb
  unfold coC
  rw [wrap_id (n := s1 * t3) (by omega) (by omega), wrap_id (n := s2 * t4) (by omega) (by omega), wrap_id (n := s3 * t1) (by omega) (by omega), wrap_id (n := s4 * t2) (by omega) (by omega), wrap_id (n := s1 * t3 - s2 * t4) (by omega) (by omega), wrap_id (n := s1 * t3 - s2 * t4 + s3 * t1) (by omega) (by omega), wrap_id (by omega) (by omega)]
  omega
theorem coW_D {s1 s2 s3 s4 t1 t2 t3 t4 : Int} (hs : inT 5 s1 s2 s3 s4 = true) (ht : inT 5 t1 t2 t3 t4 = true) :
    wrap64 (wrap64 (wrap64 (wrap64 (s1 * t4) + wrap64 (s2 * t3)) - wrap64 (s3 * t2)) + wrap64 (s4 * t1)) = coD s1 s2 s3 s4 t1 t2 t3 t4 ∧ -100 ≤ coD s1 s2 s3 s4 t1 t2 t3 t4 ∧ coD s1 s2 s3 s4 t1 t2 t3 t4 ≤ 100 := by
  obtain ⟨ha, hb, hc, hd⟩ := inT_iff.1 hs
  obtain ⟨ka, kb, kc, kd⟩ := inT_iff.1 ht
  have h1 := mulB ha kd
  have h2 := mulB hb kc
  have h3 := mulB hc kb
  have h4 := mulB hd ka
  unfold coD
  rw [wrap_id (n := s1 * t4) (by omega) (by omega), wrap_id (n := s2 * t3) (by omega) (by omega), wrap_id (n := s3 * t2) (by omega) (by omega), wrap_id (n := s4 * t1) (by omega) (by omega), wrap_id (n := s1 * t4 + s2 * t3) (by omega) (by omega), wrap_id (n := s1 * t4 + s2 * t3 - s3 * t2) (by omega) (by omega), wrap_id (by omega) (by omega)]
  omega
def apR (a b c d x y z : Int) : Bool := rightT a b c d && wideB x y z
def apI (r : Bool) (v : Int) : Int := if r then v else 0
def coR (s1 s2 s3 s4 t1 t2 t3 t4 : Int) : Bool := rightT s1 s2 s3 s4 && rightT t1 t2 t3 t4
def coK (s1 s2 s3 s4 t1 t2 t3 t4 : Int) : Int :=
  if coR s1 s2 s3 s4 t1 t2 t3 t4 then ofC (coA s1 s2 s3 s4 t1 t2 t3 t4) (coB s1 s2 s3 s4 t1 t2 t3 t4) (coC s1 s2 s3 s4 t1 t2 t3 t4) (coD s1 s2 s3 s4 t1 t2 t3 t4) else 1
def coP (s1 s2 s3 s4 t1 t2 t3 t4 v : Int) : Int :=
  if coR s1 s2 s3 s4 t1 t2 t3 t4 then ofP (coA s1 s2 s3 s4 t1 t2 t3 t4) (coB s1 s2 s3 s4 t1 t2 t3 t4) (coC s1 s2 s3 s4 t1 t2 t3 t4) (coD s1 s2 s3 s4 t1 t2 t3 t4) v else 0
theorem absLe {x m : Int} (hm : 0 ≤ m) (h : x * x ≤ m * m) : -m ≤ x ∧ x ≤ m := by
  have h1 : x.natAbs * x.natAbs ≤ m.natAbs * m.natAbs := by
    have e1 := Int.natAbs_mul_self' x
    have e2 := Int.natAbs_mul_self' m
    omega
  have := Nat.mul_self_le_mul_self_iff.1 h1
  omega
theorem ap_bound {a b c d x y z D M : Int} (ht : rightT a b c d = true) (hD : dot x y z x y z ≤ D) (hM : 0 ≤ M) (h : 10000 * D ≤ M * M) : withinB M (apX a b c d x y z) (apY a b c d x y z) (apZ a b c d x y z) = true := by
  have hn := nT_le (rightT_iff.1 ht).1
  have hp := nT_pos (rightT_ne ht)
  have hn2 := mulB (A := 100) (B := 100) (a := nT a b c d) (b := nT a b c d) (by omega) (by omega)
  have hd := ap_dot a b c d x y z x y z
  have h0 : 0 ≤ dot x y z x y z := by have h1 := sqn x; have h2 := sqn y; have h3 := sqn z; unfold dot; omega
  have hm := mulB (A := 10000) (B := D) (a := nT a b c d * nT a b c d) (b := dot x y z x y z) (by omega) (by omega)
  have s1 := sqn (apX a b c d x y z)
  have s2 := sqn (apY a b c d x y z)
  have s3 := sqn (apZ a b c d x y z)
  have hdd : dot (apX a b c d x y z) (apY a b c d x y z) (apZ a b c d x y z) (apX a b c d x y z) (apY a b c d x y z) (apZ a b c d x y z) = apX a b c d x y z * apX a b c d x y z + apY a b c d x y z * apY a b c d x y z + apZ a b c d x y z * apZ a b c d x y z := rfl
  rw [withinB_iff]
  exact ⟨absLe hM (by omega), absLe hM (by omega), absLe hM (by omega)⟩
theorem sameD_comm (p q : D3) : sameD p q = sameD q p := by
  unfold sameD
  by_cases hp : rightB p.1 p.2.1 p.2.2 = true
  · by_cases hq : rightB q.1 q.2.1 q.2.2 = true
    · exact same_turned hp hq
    · rw [Bool.not_eq_true] at hq
      unfold sameB
      rw [hq]
      simp
  · rw [Bool.not_eq_true] at hp
    unfold sameB
    rw [hp]
    simp
theorem same_within {a1 a2 a3 b1 b2 b3 : Int} (ha : withinB 1000000 a1 a2 a3 = true) (hb : withinB 1000000 b1 b2 b3 = true) :
    (decide (crW a2 a3 b2 b3 = 0 ∧ crW a3 a1 b3 b1 = 0 ∧ crW a1 a2 b1 b2 = 0) && decide (0 < dotW a1 a2 a3 b1 b2 b3)) = sameB a1 a2 a3 b1 b2 b3 := by
  unfold sameB rightB
  rw [ha, hb]
  by_cases za : a1 = 0 ∧ a2 = 0 ∧ a3 = 0
  · obtain ⟨rfl, rfl, rfl⟩ := za
    have : dotW 0 0 0 b1 b2 b3 = 0 := by have z : wrap64 0 = 0 := wrap_id (by omega) (by omega); unfold dotW; simp [z]
    rw [this]
    simp [zeroB]
  · by_cases zb : b1 = 0 ∧ b2 = 0 ∧ b3 = 0
    · obtain ⟨rfl, rfl, rfl⟩ := zb
      have : dotW a1 a2 a3 0 0 0 = 0 := by have z : wrap64 0 = 0 := wrap_id (by omega) (by omega); unfold dotW; simp [z]
      rw [this]
      simp [zeroB]
    · have h1 : zeroB a1 a2 a3 = false := by unfold zeroB; simp only [decide_eq_false_iff_not]; exact za
      have h2 : zeroB b1 b2 b3 = false := by unfold zeroB; simp only [decide_eq_false_iff_not]; exact zb
      rw [h1, h2]
      rfl
theorem small_wideB {x y z : Int} (h : smallB x y z = true) : wideB x y z = true := by
  obtain ⟨h1, h2⟩ := small_iff h
  unfold wideB
  rw [h1, Bool.true_and, withinB_iff]
  rw [withinB_iff] at h2
  omega
def apD (a b c d : Int) (v : D3) : D3 := (apX a b c d v.1 v.2.1 v.2.2, apY a b c d v.1 v.2.1 v.2.2, apZ a b c d v.1 v.2.1 v.2.2)
theorem apD_within {a b c d : Int} {v : D3} (ht : rightT a b c d = true) (hv : smallB v.1 v.2.1 v.2.2 = true) : withinB 1000000 (apD a b c d v).1 (apD a b c d v).2.1 (apD a b c d v).2.2 = true := by
  refine ap_bound (D := 300) ht ?_ (by omega) (by omega)
  have h := dot_bound (small_iff hv).2 (small_iff hv).2
  omega
def idTo (L : List St) (a b c d : Int) (v : D3) : Nat → Int
  | 0 => 0
  | k + 1 => if sameD v (apD a b c d (stA L k).2) = true then (stA L k).1 else idTo L a b c d v k
def matchOk (L : List St) (a b c d : Int) (S : List D3) : Bool := skyB L && rightT a b c d && spotsB S
def matchL (L : List St) (a b c d : Int) (S : List D3) : List Int := if matchOk L a b c d S = true then S.map (fun v => idTo L a b c d v L.length) else []
theorem match_no1 {L : List St} {a b c d : Int} {S : List D3} (h : skyB L = false) : matchL L a b c d S = [] := by unfold matchL matchOk; rw [h]; rfl
theorem match_no2 {L : List St} {a b c d : Int} {S : List D3} (h : rightT a b c d = false) : matchL L a b c d S = [] := by unfold matchL matchOk; rw [h, Bool.and_false]; rfl
theorem match_no3 {L : List St} {a b c d : Int} {S : List D3} (h : spotsB S = false) : matchL L a b c d S = [] := by unfold matchL matchOk; rw [h, Bool.and_false]; rfl
theorem match_yes {L : List St} {a b c d : Int} {S : List D3} (h1 : skyB L = true) (h2 : rightT a b c d = true) (h3 : spotsB S = true) : matchL L a b c d S = S.map (fun v => idTo L a b c d v L.length) := by unfold matchL matchOk; rw [h1, h2, h3]; rfl
theorem match_len (L : List St) (a b c d : Int) (S : List D3) : (matchL L a b c d S).length ≤ 6 := by
  unfold matchL
  split
  · rename_i h
    unfold matchOk at h
    rw [Bool.and_eq_true] at h
    rw [List.length_map]
    exact (spots_ok h.2).1
  · simp
end Go.Proofs.YteoonaanoenjiaaGreatDoor
namespace Go.Proofs.YteoonaanoenjiaaGreatDoor
open Go.RowKit Go.Extern.Stop Go.Stop Go.Extern
set_option linter.unusedVariables false
theorem isTypeOf (v : Value) (w : World) : (Extern.ReflectliteType.typeOf #[.iface 309 v]).run Tryz.prog w = .ok (.iface 251 (.agg #[.pointer (some ⟨3, 309, none⟩)])) w := by kernel_rfl
theorem isComparable (w : World) : (callFunc 265 #[.agg #[.pointer (some ⟨3, 309, none⟩)]]).run Tryz.prog w = .ok (Next.value (.bool true)) w :=
  (@run_callFunc_extern Tryz.prog 265 _ (Extern.ReflectliteType.method fun t => do Extern.Rtype.noPackHeld "Comparable" t; pure (.bool (← typeInfo t).comparable)) Tryz.func265 (by kernel_rfl) (by kernel_rfl) (by kernel_rfl) (by kernel_rfl) _ w).trans (by kernel_rfl)
theorem isMethodComparable (v : Value) (w : World) : (Go.method 441 251 v "Comparable").run Tryz.prog w = .ok (265, v) w := by kernel_rfl
theorem isComp : (Tryz.prog.info? 309).map (·.comparable) = some true := by kernel_rfl
theorem isSize : (Tryz.prog.info? 329).map (·.size) = some 1 := by kernel_rfl
theorem noIsW (v : Value) (xT : TypeId) (w : World) : (Instr.typeAssert (.iface 215 v) xT 253 true).run Tryz.prog w = .ok (.tuple #[.nilIface, .bool false]) w := run_typeAssert_lacksB Tryz.underlying253 (by kernel_rfl) (by kernel_rfl) v xT w
theorem hasUnwrapW (v : Value) (xT : TypeId) (w : World) : (Instr.typeAssert (.iface 215 v) xT 256 true).run Tryz.prog w = .ok (.tuple #[.iface 215 v, .bool true]) w := run_typeAssert_hasB Tryz.underlying256 (by kernel_rfl) v xT w
theorem methodUnwrap (v : Value) (w : World) : (Go.method 441 215 v "Unwrap").run Tryz.prog w = .ok (259, v) w := by kernel_rfl
def ErrSky (b : Addr) (w : World) : Prop := w.cell? ⟨1, 0, none⟩ = some (.iface 309 (.pointer (some b)))
theorem ErrSky.lt {b : Addr} {w : World} (h : ErrSky b w) : 1 < w.heap.size := World.block_lt_of_cell? w _ h
theorem ErrSky.kept {b : Addr} {w w' : World} (h : ErrSky b w) (hB : Below w.heap.size w w') : ErrSky b w' := by
  unfold ErrSky
  rw [hB.cell (p := ⟨1, 0, none⟩) h.lt]
  exact h
theorem is_nil (b : Addr) (w : World) :
    Calls Tryz.prog 126 #[.nilIface, .iface 309 (.pointer (some b))] w fun e w' => e = .returned (.bool false) ∧ w' = w := by
  have hn := run_eql_iface_nil_left (P := Tryz.prog) w 309 (.pointer (some b)) Tryz.underlying129
  go_enter Tryz.func126, Tryz.ntmps126
  go_wp2
  go_ret
  exact ⟨rfl, rfl⟩
theorem unwrap_any (why : ByteArray) (b : Addr) (w : World) (h : ErrSky b w) :
    Calls Tryz.prog 259 #[.agg #[.string why]] w fun e w' => e = .returned (.iface 309 (.pointer (some b))) ∧ Below w.heap.size w w' := by
  have h' : ErrSky b (w.alloc (.cells #[.string why] 215)) := h.kept (below1 _ _)
  unfold ErrSky at h'
  go_enter Tryz.func259, Tryz.ntmps259
  go_wp2
  go_ret
  exact ⟨rfl, below1 _ _⟩
set_option maxHeartbeats 1000000 in
theorem is_fault (why : ByteArray) (b : Addr) (w : World) (h : ErrSky b w) :
    Calls Tryz.prog 126 #[.iface 215 (.agg #[.string why]), .iface 309 (.pointer (some b))] w fun e w' => e = .returned (.bool true) ∧ Below w.heap.size w w' := by
  obtain ⟨i, hi, hcmp⟩ := Option.map_eq_some_iff.1 isComp
  obtain ⟨j, hj, hjs⟩ := Option.map_eq_some_iff.1 isSize
  have h8 := @run_callFunc_extern Tryz.prog 161 _ Extern.ReflectliteType.typeOf Tryz.func161 (by kernel_rfl) (by kernel_rfl) (by kernel_rfl) (by kernel_rfl)
  have tT := isTypeOf
  have cT := isComparable
  have mR := isMethodComparable
  have nW := noIsW
  have uW := hasUnwrapW
  have mU := methodUnwrap
  have heq := fun w => run_eql_iface_ptr_same (P := Tryz.prog) w b Tryz.underlying129 Tryz.underlying309 hi hcmp hj
  have hty := fun w => run_eql_iface_types (P := Tryz.prog) 215 309 (.agg #[.string why]) (.pointer (some b)) Tryz.underlying129 (by decide) w
  have HE := yz h
  clear h
  go_enter Tryz.func126, Tryz.ntmps126
  go_wp2
  refine wp_loop_rounds 2 ?_
  rw [rounds_succ]
  go_wp2_with (go_at_call 259; refine (unwrap_any why b _ (yx HE)).mono ?_; rintro e w1 ⟨rfl, hx⟩)
  rw [rounds_succ]
  go_wp2
  go_ret
  exact ⟨rfl, hx⟩
end Go.Proofs.YteoonaanoenjiaaGreatDoor
namespace Go.Proofs.YteoonaanoenjiaaGreatDoor
open Go.RowKit
set_option linter.unusedVariables false
def StarAt (w : World) (b o : Nat) (s : St) : Prop := w.cell? ⟨b, o, none⟩ = some (.int .i64 s.1) ∧ w.cell? ⟨b, o + 1, none⟩ = some (.int .i64 s.2.1) ∧ w.cell? ⟨b, o + 2, none⟩ = some (.int .i64 s.2.2.1) ∧ w.cell? ⟨b, o + 3, none⟩ = some (.int .i64 s.2.2.2)
def Stars (w : World) (a : Option Addr) (L : List St) (n : Nat) : Prop := n = 0 ∨ ∃ b o, a = some ⟨b, o, none⟩ ∧ b < w.heap.size ∧ ∀ i, i < n → StarAt w b (o + i * 4) (stA L i)
theorem StarAt.kept {w w' : World} {b o : Nat} {s : St} (h : StarAt w b o s) (hb : b < w.heap.size) (hB : Below w.heap.size w w') : StarAt w' b o s := by
  obtain ⟨h0, h1, h2, h3⟩ := h
  exact ⟨by rw [hB.cell (p := ⟨b, o, none⟩) hb]; exact h0, by rw [hB.cell (p := ⟨b, o + 1, none⟩) hb]; exact h1, by rw [hB.cell (p := ⟨b, o + 2, none⟩) hb]; exact h2, by rw [hB.cell (p := ⟨b, o + 3, none⟩) hb]; exact h3⟩
theorem Stars.kept {w w' : World} {a : Option Addr} {L : List St} {n : Nat} (h : Stars w a L n) (hB : Below w.heap.size w w') : Stars w' a L n := by
  rcases h with h | ⟨b, o, ha, hb, hc⟩
  · exact .inl h
  · exact .inr ⟨b, o, ha, Nat.lt_of_lt_of_le hb hB.size, fun i hi => (hc i hi).kept hb hB⟩
theorem vlt {w : World} {b : Nat} {x y z : Int} (h : VecAt w b x y z) : b < w.heap.size := World.block_lt_of_cell? w _ h.1
theorem Stars.less {w : World} {a : Option Addr} {L : List St} {n m : Nat} (h : Stars w a L n) (hm : m ≤ n) : Stars w a L m := by
  rcases h with h | ⟨b, o, ha, hb, hc⟩
  · exact .inl (by omega)
  · exact .inr ⟨b, o, ha, hb, fun i hi => hc i (by omega)⟩
set_option maxHeartbeats 1000000 in
set_option maxRecDepth 100000 in
theorem isTaken_any (L : List St) (n : Nat) (x y z : Int) (a : Option Addr) (c : Nat) (w : World) (hn : n ≤ 1048576) (hS : Stars w a L n) :
    Calls Tryz.prog 193 #[.agg #[.int .i64 x, .int .i64 y, .int .i64 z], .slice a n c] w fun e w' => e = .returned (.bool (takenB L (0, x, y, z) n)) ∧ Below w.heap.size w w' := by
  rcases hS with rfl | ⟨b, o, rfl, hb, hc⟩
  · go_enter Tryz.func193, Tryz.ntmps193
    go_wp2_with fail
    refine wp_loop_rounds 1 ?_
    rw [rounds_succ]
    go_wp2_with fail
    go_ret
    exact ⟨rfl, below1 _ _⟩
  · have HC := yz hc
    clear hc
    have V0 := yz (vecAt_new w x y z 111)
    have B0 := yz (below1 w (.cells #[.int .i64 x, .int .i64 y, .int .i64 z] 111))
    go_enter Tryz.func193, Tryz.ntmps193
    go_wp2_with fail
    go_loopw [9] (fun i wr => ∃ k : Nat, k ≤ n ∧ i = .int .i64 k ∧ Hid (freeTo L (0, x, y, z) k) ∧ Hid (Below w.heap.size w wr) ∧ Hid (VecAt wr w.heap.size x y z)) (fun i _ => n - (intOf i).toNat)
    case atStart => exact ⟨0, by omega, rfl, yz (fun j hj => absurd hj (Nat.not_lt_zero _)), B0, V0⟩
    case round =>
      obtain ⟨k, hk, rfl, HF, HB, HV⟩ := hrel
      by_cases hkn : k < n
      · obtain ⟨⟨s1, s2, s3, s4⟩, hs⟩ : ∃ s, stA L k = s := ⟨_, rfl⟩
        have hst := ((yx HC) k hkn).kept hb (yx HB)
        rw [hs] at hst
        obtain ⟨c0, c1, c2, c3⟩ := hst
        have HS := yz hs
        clear hs
        have V1 := yz (VecAt.alloc (yx HV) (vlt (yx HV)) (.cells #[.int .i64 s1, .int .i64 s2, .int .i64 s3, .int .i64 s4] 113))
        have B1 := yz ((yx HB).alloc (yx HB).size (.cells #[.int .i64 s1, .int .i64 s2, .int .i64 s3, .int .i64 s4] 113))
        obtain ⟨v0, v1, v2⟩ := yx V1
        go_wp2_with fail
        refine (sameWay_any x y z s2 s3 s4 _).mono ?_
        rintro e w2 ⟨rfl, hx⟩
        have HV2 := yz ((yx V1).kept (vlt (yx V1)) hx)
        have HB2 := yz (below_call (yx B1) hx)
        clear hx c0 c1 c2 c3 v0 v1 v2 V1 B1 HB HV
        have HR : Hid (sameS (0, x, y, z) (stA L k) = sameB x y z s2 s3 s4) := yz (by rw [yx HS]; rfl)
        cases hq : sameB x y z s2 s3 s4
        · rw [hq] at HR
          go_wp2_with fail
          go_roundw
          case rel => exact ⟨k + 1, by omega, by go_num, yz (free_step (yx HF) (yx HR)), HB2, HV2⟩
          case measure => simp [intOf]; omega
        · rw [hq] at HR
          go_wp2_with fail
          go_ret
          exact ⟨by rw [taken_yes hkn (yx HR)]; rfl, yx HB2⟩
      · have hkn' : k = n := by omega
        subst hkn'
        go_wp2_with fail
        go_ret
        exact ⟨by rw [taken_no (yx HF)]; rfl, yx HB⟩
end Go.Proofs.YteoonaanoenjiaaGreatDoor
namespace Go.Proofs.YteoonaanoenjiaaGreatDoor
open Go.RowKit Go.Sort
set_option linter.unusedVariables false
def whyId : ByteArray := ⟨#[97, 110, 32, 73, 100, 32, 105, 115, 32, 110, 111, 116, 32, 49, 32, 116, 111, 32, 57, 57, 57, 57]⟩
def whyUp : ByteArray := ⟨#[116, 104, 101, 32, 73, 100, 115, 32, 97, 114, 101, 32, 110, 111, 116, 32, 114, 105, 115, 105, 110, 103]⟩
def whyAt : ByteArray := ⟨#[97, 32, 115, 116, 97, 114, 32, 105, 115, 32, 97, 116, 32, 110, 111, 32, 115, 109, 97, 108, 108, 32, 100, 105, 114, 101, 99, 116, 105, 111, 110, 32, 116, 104, 97, 116, 32, 105, 115, 32, 105, 116, 115, 32, 111, 119, 110, 32, 112, 114, 105, 109, 101]⟩
def whyTwo : ByteArray := ⟨#[116, 119, 111, 32, 115, 116, 97, 114, 115, 32, 97, 114, 101, 32, 116, 104, 101, 32, 115, 97, 109, 101, 32, 119, 97, 121]⟩
def whyMany : ByteArray := ⟨#[116, 104, 101, 114, 101, 32, 97, 114, 101, 32, 116, 111, 111, 32, 109, 97, 110, 121, 32, 115, 116, 97, 114, 115]⟩
def faultA (why : ByteArray) : Value := .iface 215 (.agg #[.string why])
def whyV (L : List St) (i : Nat) : Value :=
  if idB (stA L i).1 = false then faultA whyId else if upB L i = false then faultA whyUp
  else if (smallB (stA L i).2.1 (stA L i).2.2.1 (stA L i).2.2.2 && primeB (stA L i).2.1 (stA L i).2.2.1 (stA L i).2.2.2) = false then faultA whyAt
  else if takenB L (stA L i) i = true then faultA whyTwo else .nilIface
theorem whyV_ok {L : List St} {i : Nat} (h : okAt L i = true) : whyV L i = .nilIface := by
  unfold okAt at h
  simp only [Bool.and_eq_true, Bool.not_eq_true'] at h
  obtain ⟨⟨⟨h1, h2⟩, h3, h4⟩, h5⟩ := h
  unfold whyV
  simp [h1, h2, h3, h4, h5]
theorem whyV_no {L : List St} {i : Nat} (h : okAt L i = false) : ∃ why, whyV L i = faultA why := by
  unfold whyV
  split
  · exact ⟨_, rfl⟩
  · split
    · exact ⟨_, rfl⟩
    · split
      · exact ⟨_, rfl⟩
      · split
        · exact ⟨_, rfl⟩
        · rename_i h1 h2 h3 h4
          exfalso
          simp only [Bool.not_eq_false, Bool.not_eq_true] at h1 h2 h3 h4
          unfold okAt at h
          rw [h1, h2, h3, h4] at h
          simp at h
theorem starAt_new (w : World) (s : St) (t : TypeId) : StarAt (w.alloc (.cells #[.int .i64 s.1, .int .i64 s.2.1, .int .i64 s.2.2.1, .int .i64 s.2.2.2] t)) w.heap.size 0 s := by
  refine ⟨?_, ?_, ?_, ?_⟩ <;> simp
set_option maxHeartbeats 2000000 in
set_option maxRecDepth 100000 in
theorem whyNoStar_any (L : List St) (i : Nat) (s1 s2 s3 s4 : Int) (a : Option Addr) (c : Nat) (w : World) (hi : i ≤ 1048576) (hs : stA L i = (s1, s2, s3, s4)) (hS : Stars w a L i) :
    Calls Tryz.prog 163 #[.agg #[.int .i64 s1, .int .i64 s2, .int .i64 s3, .int .i64 s4], .slice a i c] w fun e w' => e = .returned (whyV L i) ∧ Below w.heap.size w w' := by
  have HS := yz hs
  clear hs
  have HA := yz hS
  clear hS
  have HB := yz (below1 w (.cells #[.int .i64 s1, .int .i64 s2, .int .i64 s3, .int .i64 s4] 113))
  have HN := yz (starAt_new w (s1, s2, s3, s4) 113)
  by_cases h1 : s1 < 1
  · have HO : Hid (whyV L i = faultA whyId) := yz (by unfold whyV; rw [if_pos (by rw [yx HS]; unfold idB; simp; omega)])
    go_enter Tryz.func163, Tryz.ntmps163
    go_wp2
    go_ret
    exact ⟨by rw [yx HO]; rfl, yx HB⟩
  by_cases h2 : 9999 < s1
  · have HO : Hid (whyV L i = faultA whyId) := yz (by unfold whyV; rw [if_pos (by rw [yx HS]; unfold idB; simp; omega)])
    go_enter Tryz.func163, Tryz.ntmps163
    go_wp2
    go_ret
    exact ⟨by rw [yx HO]; rfl, yx HB⟩
  have K0 : Hid (¬ idB (stA L i).1 = false) := yz (by rw [yx HS]; unfold idB; simp; omega)
  by_cases hu : upB L i = false
  · have HO : Hid (whyV L i = faultA whyUp) := yz (by unfold whyV; rw [if_neg (yx K0), if_pos hu])
    obtain ⟨j, rfl⟩ : ∃ j, i = j + 1 := ⟨i - 1, by unfold upB at hu; simp at hu; omega⟩
    obtain ⟨⟨p1, p2, p3, p4⟩, hp⟩ : ∃ s, stA L j = s := ⟨_, rfl⟩
    have hle : s1 ≤ p1 := by unfold upB at hu; rw [yx HS] at hu; simp [hp] at hu; omega
    rcases yx HA with h0 | ⟨b, o, rfl, hb, hc⟩
    · omega
    have hst := (hc j (by omega)).kept hb (yx HB)
    rw [hp] at hst
    obtain ⟨c0, _, _, _⟩ := hst
    have hj1 : (j : Int) + 1 - 1 = (j : Int) := by omega
    have hj2 : (0 : Int) < (j : Int) + 1 := by omega
    clear hu hp hc
    go_enter Tryz.func163, Tryz.ntmps163
    go_wp2_with fail
    go_quiet (fail)
    go_wp2_with fail
    go_ret
    exact ⟨by rw [yx HO]; rfl, below_call (yx HB) (below_drewN _ _)⟩
  have K1 := yz hu
  clear hu
  rcases Nat.eq_zero_or_pos i with hi0 | hi0
  · subst hi0
    go_enter Tryz.func163, Tryz.ntmps163
    go_wp2_with fail
    go_quiet (fail)
    go_wp2_with fail
    have hx := below_call (yx HB) (below_drewN (w.alloc (.cells #[.int .i64 s1, .int .i64 s2, .int .i64 s3, .int .i64 s4] 113)) nq)
    have hn' := (yx HN).kept (by simp) (below_drewN _ nq)
    generalize (w.alloc (.cells #[.int .i64 s1, .int .i64 s2, .int .i64 s3, .int .i64 s4] 113)).drewN nq = W1 at hx hn' ⊢
    have HB1 := yz hx
    have HN1 := yz hn'
    clear hx hn' HB HN
    obtain ⟨_, c1, c2, c3⟩ := yx HN1
    simp only [Nat.zero_add] at c1 c2 c3
    have r1 := cell_regrown c1
    have r2 := cell_regrown c2
    have r3 := cell_regrown c3
    clear c1 c2 c3
    cases hsm : smallB s2 s3 s4
    · have HO : Hid (whyV L 0 = faultA whyAt) := yz (by unfold whyV; rw [if_neg (yx K0), if_neg (yx K1), if_pos (by rw [yx HS]; simp [hsm])])
      have cS : Hid (∀ W : World, Calls Tryz.prog 192 #[.agg #[.int .i64 s2, .int .i64 s3, .int .i64 s4]] W fun e w' => e = .returned (.bool false) ∧ Below W.heap.size W w') := yz (fun W => (isSmall_any s2 s3 s4 W).mono fun e w' h => ⟨by rw [h.1, hsm], h.2⟩)
      clear hsm
      refine wp_region_quiet_below (by kernel_rfl) (by kernel_rfl) ?_
      repeat (quiet_step (first | (with_reducible exact Calls.regrown_of (yx cS _))))
      refine wpQuiet_nil ?_
      intro _ hw'
      obtain ⟨⟨dq, osq⟩, hw''⟩ := hw'
      subst hw''
      have hx := below_call (yx HB1) (below_regrown W1 dq osq)
      go_wp2_with fail
      go_ret
      exact ⟨by rw [yx HO]; rfl, hx⟩
    · have cS : Hid (∀ W : World, Calls Tryz.prog 192 #[.agg #[.int .i64 s2, .int .i64 s3, .int .i64 s4]] W fun e w' => e = .returned (.bool true) ∧ Below W.heap.size W w') := yz (fun W => (isSmall_any s2 s3 s4 W).mono fun e w' h => ⟨by rw [h.1, hsm], h.2⟩)
      have cP := yz (fun W => prime_any s2 s3 s4 W)
      have hq := fun W => neq_vec s2 s3 s4 (prI (rightB s2 s3 s4) (gI s2 s3 s4) s2) (prI (rightB s2 s3 s4) (gI s2 s3 s4) s3) (prI (rightB s2 s3 s4) (gI s2 s3 s4) s4) W
      have hq2 : eqB s2 s3 s4 (prI (rightB s2 s3 s4) (gI s2 s3 s4) s2) (prI (rightB s2 s3 s4) (gI s2 s3 s4) s3) (prI (rightB s2 s3 s4) (gI s2 s3 s4) s4) = primeB s2 s3 s4 := rfl
      rw [hq2] at hq
      clear hq2
      generalize prI (rightB s2 s3 s4) (gI s2 s3 s4) s2 = t2 at cP hq
      generalize prI (rightB s2 s3 s4) (gI s2 s3 s4) s3 = t3 at cP hq
      generalize prI (rightB s2 s3 s4) (gI s2 s3 s4) s4 = t4 at cP hq
      cases hpr : primeB s2 s3 s4
      · have HO : Hid (whyV L 0 = faultA whyAt) := yz (by unfold whyV; rw [if_neg (yx K0), if_neg (yx K1), if_pos (by rw [yx HS]; simp [hpr])])
        rw [hpr] at hq
        refine wp_region_quiet_below (by kernel_rfl) (by kernel_rfl) ?_
        repeat (quiet_step (first | (with_reducible exact Calls.regrown_of (yx cS _)) | (with_reducible exact Calls.regrown_of (yx cP _))))
        refine wpQuiet_nil ?_
        intro _ hw'
        obtain ⟨⟨dq, osq⟩, hw''⟩ := hw'
        subst hw''
        have hx := below_regrown W1 dq osq
        replace hx := below_call (yx HB1) hx
        go_wp2_with fail
        go_ret
        exact ⟨by rw [yx HO]; rfl, hx⟩
      · have K2 : Hid (¬ (smallB (stA L 0).2.1 (stA L 0).2.2.1 (stA L 0).2.2.2 && primeB (stA L 0).2.1 (stA L 0).2.2.1 (stA L 0).2.2.2) = false) := yz (by rw [yx HS]; simp [hsm, hpr])
        clear hsm
        rw [hpr] at hq
        refine wp_region_quiet_below (by kernel_rfl) (by kernel_rfl) ?_
        repeat (quiet_step (first | (with_reducible exact Calls.regrown_of (yx cS _)) | (with_reducible exact Calls.regrown_of (yx cP _))))
        refine wpQuiet_nil ?_
        intro _ hw'
        obtain ⟨⟨dq, osq⟩, hw''⟩ := hw'
        subst hw''
        have hx := below_regrown W1 dq osq
        have hn2 := (yx HN1).kept (World.block_lt_of_cell? _ _ (yx HN1).1) hx
        have hb2 := below_call (yx HB1) hx
        generalize grow (redrawn W1 dq) osq = W2 at hx hn2 hb2 ⊢
        have HB2 := yz hb2
        clear hx hb2 r1 r2 r3 hq cS cP HN1 HB1
        obtain ⟨_, c1, c2, c3⟩ := hn2
        simp only [Nat.zero_add] at c1 c2 c3
        go_wp2_with fail
        refine (isTaken_any L 0 s2 s3 s4 _ _ _ hi ((yx HA).kept (yx HB2))).mono ?_
        rintro e w3 ⟨rfl, hx⟩
        replace hx := below_call (yx HB2) hx
        clear HB2 c1 c2 c3
        have ht : takenB L (0, s2, s3, s4) 0 = takenB L (stA L 0) 0 := by rw [yx HS]; rfl
        rw [ht]
        clear ht
        cases htk : takenB L (stA L 0) 0
        · have HO : Hid (whyV L 0 = .nilIface) := yz (by unfold whyV; rw [if_neg (yx K0), if_neg (yx K1), if_neg (yx K2), if_neg (by rw [htk]; simp)])
          go_wp2_with fail
          go_ret
          exact ⟨by rw [yx HO]; rfl, hx⟩
        · have HO : Hid (whyV L 0 = faultA whyTwo) := yz (by unfold whyV; rw [if_neg (yx K0), if_neg (yx K1), if_neg (yx K2), if_pos htk])
          go_wp2_with fail
          go_ret
          exact ⟨by rw [yx HO]; rfl, hx⟩
  · obtain ⟨j, rfl⟩ : ∃ j, i = j + 1 := ⟨i - 1, by omega⟩
    obtain ⟨⟨p1, p2, p3, p4⟩, hp⟩ : ∃ s, stA L j = s := ⟨_, rfl⟩
    have hle : p1 < s1 := by have hu := yx K1; unfold upB at hu; rw [yx HS] at hu; simp [hp] at hu; omega
    rcases yx HA with h0 | ⟨b, o, rfl, hb, hc⟩
    · omega
    have hst := (hc j (by omega)).kept hb (yx HB)
    rw [hp] at hst
    obtain ⟨c0, _, _, _⟩ := hst
    have hj1 : (j : Int) + 1 - 1 = (j : Int) := by omega
    have hj2 : (0 : Int) < (j : Int) + 1 := by omega
    clear hp hc
    go_enter Tryz.func163, Tryz.ntmps163
    go_wp2_with fail
    go_quiet (fail)
    go_wp2_with fail
    clear c0
    have hx := below_call (yx HB) (below_drewN (w.alloc (.cells #[.int .i64 s1, .int .i64 s2, .int .i64 s3, .int .i64 s4] 113)) nq)
    have hn' := (yx HN).kept (by simp) (below_drewN _ nq)
    generalize (w.alloc (.cells #[.int .i64 s1, .int .i64 s2, .int .i64 s3, .int .i64 s4] 113)).drewN nq = W1 at hx hn' ⊢
    have HB1 := yz hx
    have HN1 := yz hn'
    clear hx hn' HB HN
    obtain ⟨_, c1, c2, c3⟩ := yx HN1
    simp only [Nat.zero_add] at c1 c2 c3
    have r1 := cell_regrown c1
    have r2 := cell_regrown c2
    have r3 := cell_regrown c3
    clear c1 c2 c3
    cases hsm : smallB s2 s3 s4
    · have HO : Hid (whyV L (j + 1) = faultA whyAt) := yz (by unfold whyV; rw [if_neg (yx K0), if_neg (yx K1), if_pos (by rw [yx HS]; simp [hsm])])
      have cS : Hid (∀ W : World, Calls Tryz.prog 192 #[.agg #[.int .i64 s2, .int .i64 s3, .int .i64 s4]] W fun e w' => e = .returned (.bool false) ∧ Below W.heap.size W w') := yz (fun W => (isSmall_any s2 s3 s4 W).mono fun e w' h => ⟨by rw [h.1, hsm], h.2⟩)
      clear hsm
      refine wp_region_quiet_below (by kernel_rfl) (by kernel_rfl) ?_
      repeat (quiet_step (first | (with_reducible exact Calls.regrown_of (yx cS _))))
      refine wpQuiet_nil ?_
      intro _ hw'
      obtain ⟨⟨dq, osq⟩, hw''⟩ := hw'
      subst hw''
      have hx := below_call (yx HB1) (below_regrown W1 dq osq)
      go_wp2_with fail
      go_ret
      exact ⟨by rw [yx HO]; rfl, hx⟩
    · have cS : Hid (∀ W : World, Calls Tryz.prog 192 #[.agg #[.int .i64 s2, .int .i64 s3, .int .i64 s4]] W fun e w' => e = .returned (.bool true) ∧ Below W.heap.size W w') := yz (fun W => (isSmall_any s2 s3 s4 W).mono fun e w' h => ⟨by rw [h.1, hsm], h.2⟩)
      have cP := yz (fun W => prime_any s2 s3 s4 W)
      have hq := fun W => neq_vec s2 s3 s4 (prI (rightB s2 s3 s4) (gI s2 s3 s4) s2) (prI (rightB s2 s3 s4) (gI s2 s3 s4) s3) (prI (rightB s2 s3 s4) (gI s2 s3 s4) s4) W
      have hq2 : eqB s2 s3 s4 (prI (rightB s2 s3 s4) (gI s2 s3 s4) s2) (prI (rightB s2 s3 s4) (gI s2 s3 s4) s3) (prI (rightB s2 s3 s4) (gI s2 s3 s4) s4) = primeB s2 s3 s4 := rfl
      rw [hq2] at hq
      clear hq2
      generalize prI (rightB s2 s3 s4) (gI s2 s3 s4) s2 = t2 at cP hq
      generalize prI (rightB s2 s3 s4) (gI s2 s3 s4) s3 = t3 at cP hq
      generalize prI (rightB s2 s3 s4) (gI s2 s3 s4) s4 = t4 at cP hq
      cases hpr : primeB s2 s3 s4
      · have HO : Hid (whyV L (j + 1) = faultA whyAt) := yz (by unfold whyV; rw [if_neg (yx K0), if_neg (yx K1), if_pos (by rw [yx HS]; simp [hpr])])
        rw [hpr] at hq
        refine wp_region_quiet_below (by kernel_rfl) (by kernel_rfl) ?_
        repeat (quiet_step (first | (with_reducible exact Calls.regrown_of (yx cS _)) | (with_reducible exact Calls.regrown_of (yx cP _))))
        refine wpQuiet_nil ?_
        intro _ hw'
        obtain ⟨⟨dq, osq⟩, hw''⟩ := hw'
        subst hw''
        have hx := below_regrown W1 dq osq
        replace hx := below_call (yx HB1) hx
        go_wp2_with fail
        go_ret
        exact ⟨by rw [yx HO]; rfl, hx⟩
      · have K2 : Hid (¬ (smallB (stA L (j + 1)).2.1 (stA L (j + 1)).2.2.1 (stA L (j + 1)).2.2.2 && primeB (stA L (j + 1)).2.1 (stA L (j + 1)).2.2.1 (stA L (j + 1)).2.2.2) = false) := yz (by rw [yx HS]; simp [hsm, hpr])
        clear hsm
        rw [hpr] at hq
        refine wp_region_quiet_below (by kernel_rfl) (by kernel_rfl) ?_
        repeat (quiet_step (first | (with_reducible exact Calls.regrown_of (yx cS _)) | (with_reducible exact Calls.regrown_of (yx cP _))))
        refine wpQuiet_nil ?_
        intro _ hw'
        obtain ⟨⟨dq, osq⟩, hw''⟩ := hw'
        subst hw''
        have hx := below_regrown W1 dq osq
        have hn2 := (yx HN1).kept (World.block_lt_of_cell? _ _ (yx HN1).1) hx
        have hb2 := below_call (yx HB1) hx
        generalize grow (redrawn W1 dq) osq = W2 at hx hn2 hb2 ⊢
        have HB2 := yz hb2
        clear hx hb2 r1 r2 r3 hq cS cP HN1 HB1
        obtain ⟨_, c1, c2, c3⟩ := hn2
        simp only [Nat.zero_add] at c1 c2 c3
        go_wp2_with fail
        refine (isTaken_any L (j + 1) s2 s3 s4 _ _ _ hi ((yx HA).kept (yx HB2))).mono ?_
        rintro e w3 ⟨rfl, hx⟩
        replace hx := below_call (yx HB2) hx
        clear HB2 c1 c2 c3
        have ht : takenB L (0, s2, s3, s4) (j + 1) = takenB L (stA L (j + 1)) (j + 1) := by rw [yx HS]; rfl
        rw [ht]
        clear ht
        cases htk : takenB L (stA L (j + 1)) (j + 1)
        · have HO : Hid (whyV L (j + 1) = .nilIface) := yz (by unfold whyV; rw [if_neg (yx K0), if_neg (yx K1), if_neg (yx K2), if_neg (by rw [htk]; simp)])
          go_wp2_with fail
          go_ret
          exact ⟨by rw [yx HO]; rfl, hx⟩
        · have HO : Hid (whyV L (j + 1) = faultA whyTwo) := yz (by unfold whyV; rw [if_neg (yx K0), if_neg (yx K1), if_neg (yx K2), if_pos htk])
          go_wp2_with fail
          go_ret
          exact ⟨by rw [yx HO]; rfl, hx⟩
def whySky (L : List St) : Value := if 12 < L.length then faultA whyMany else match (List.range L.length).find? (fun i => !okAt L i) with | none => .nilIface | some i => whyV L i
theorem whySky_ok {L : List St} (hl : L.length ≤ 12) (h : okTo L L.length) : whySky L = .nilIface := by
  unfold whySky
  rw [if_neg (by omega)]
  have : (List.range L.length).find? (fun i => !okAt L i) = none := by
    rw [List.find?_eq_none]
    intro j hj
    rw [h j (List.mem_range.1 hj)]
    simp
  rw [this]
theorem whySky_at {L : List St} {k : Nat} (hl : L.length ≤ 12) (hk : k < L.length) (h : okTo L k) (h1 : okAt L k = false) : whySky L = whyV L k := by
  unfold whySky
  rw [if_neg (by omega)]
  have : (List.range L.length).find? (fun i => !okAt L i) = some k := by
    rw [List.find?_range_eq_some]
    refine ⟨by rw [h1]; rfl, List.mem_range.2 hk, fun j hj => ?_⟩
    rw [h j hj]
    rfl
  rw [this]
theorem whySky_no {L : List St} (h : skyB L = false) : ∃ why, whySky L = faultA why := by
  unfold whySky
  split
  · exact ⟨_, rfl⟩
  · rename_i hl
    cases hf : (List.range L.length).find? (fun i => !okAt L i) with
    | none =>
      exfalso
      rw [List.find?_eq_none] at hf
      have : skyB L = true := sky_yes (by omega) (fun j hj => by have := hf j (List.mem_range.2 hj); simpa using this)
      rw [h] at this
      cases this
    | some i =>
      rw [List.find?_range_eq_some] at hf
      exact whyV_no (by simpa using hf.1)
theorem whySky_yes {L : List St} (h : skyB L = true) : whySky L = .nilIface := whySky_ok (sky_ok h).1 (sky_ok h).2
set_option maxHeartbeats 2000000 in
set_option maxRecDepth 100000 in
theorem whyNoSky_any (L : List St) (a : Option Addr) (c : Nat) (w : World) (hn : L.length ≤ 1048576) (hcap : L.length ≤ c) (hc9 : c ≤ 9223372036854775807) (hS : Stars w a L L.length) :
    Calls Tryz.prog 127 #[.slice a L.length c] w fun e w' => e = .returned (whySky L) ∧ Below w.heap.size w w' := by
  obtain ⟨n, hnl⟩ : ∃ n, L.length = n := ⟨_, rfl⟩
  rw [hnl] at hn hcap hS ⊢
  have HL := yz hnl
  clear hnl
  by_cases h12 : 12 < n
  · have h12' : (12 : Int) < (n : Int) := by omega
    have HO : Hid (whySky L = faultA whyMany) := yz (by unfold whySky; rw [if_pos (by rw [yx HL]; exact h12)])
    clear hS
    go_enter Tryz.func127, Tryz.ntmps127
    go_wp2
    go_ret
    exact ⟨by rw [yx HO]; rfl, Below.refl _ _⟩
  have h12' : ¬ (12 : Int) < (n : Int) := by omega
  rcases hS with rfl | ⟨b, o, rfl, hb, hc⟩
  · have HO : Hid (whySky L = .nilIface) := yz (whySky_ok (by rw [yx HL]; omega) (by rw [yx HL]; intro j hj; omega))
    go_enter Tryz.func127, Tryz.ntmps127
    go_wp2_with fail
    refine wp_loop_rounds 1 ?_
    rw [rounds_succ]
    go_wp2_with fail
    go_ret
    exact ⟨by rw [yx HO]; rfl, Below.refl _ _⟩
  have HC := yz hc
  have HS : Hid (Stars w (some ⟨b, o, none⟩) L n) := yz (.inr ⟨b, o, rfl, hb, hc⟩)
  clear hc
  go_enter Tryz.func127, Tryz.ntmps127
  go_wp2_with fail
  go_loopw [13] (fun i wr => ∃ k : Nat, k ≤ n ∧ i = .int .i64 k ∧ Hid (okTo L k) ∧ Hid (Below w.heap.size w wr)) (fun i _ => n - (intOf i).toNat)
  case atStart => exact ⟨0, by omega, rfl, yz (fun j hj => absurd hj (Nat.not_lt_zero _)), yz (Below.refl _ _)⟩
  case round =>
    obtain ⟨k, hk, rfl, HF, HB⟩ := hrel
    by_cases hkn : k < n
    · obtain ⟨⟨s1, s2, s3, s4⟩, hs⟩ : ∃ s, stA L k = s := ⟨_, rfl⟩
      have hst := ((yx HC) k hkn).kept hb (yx HB)
      rw [hs] at hst
      obtain ⟨c0, c1, c2, c3⟩ := hst
      have HT := yz hs
      clear hs
      have B1 := yz ((yx HB).alloc (yx HB).size (.cells #[.int .i64 s1, .int .i64 s2, .int .i64 s3, .int .i64 s4] 113))
      have N1 := yz (starAt_new wr (s1, s2, s3, s4) 113)
      go_wp2_with fail
      clear c0 c1 c2 c3
      have hb1 := yx B1
      have hn1 := yx N1
      generalize hwe : wr.alloc (.cells #[.int .i64 s1, .int .i64 s2, .int .i64 s3, .int .i64 s4] 113) = W1 at hb1 hn1 ⊢
      have HB1 := yz hb1
      clear hwe hb1 B1 N1
      obtain ⟨c0, c1, c2, c3⟩ := hn1
      simp only [Nat.zero_add] at c0 c1 c2 c3
      have r0 := cell_regrown c0
      have r1 := cell_regrown c1
      have r2 := cell_regrown c2
      have r3 := cell_regrown c3
      clear c0 c1 c2 c3
      have cW := yz (fun (W : World) (hW : Stars W (some ⟨b, o, none⟩) L k) => whyNoStar_any L k s1 s2 s3 s4 (some ⟨b, o, none⟩) k W (by omega) (yx HT) hW)
      have HSk := yz (((yx HS).less (Nat.le_of_lt hkn)).kept (yx HB1))
      have hkc : (k : Int) ≤ (c : Int) := by omega
      refine wp_region_quiet_below (by kernel_rfl) (by kernel_rfl) ?_
      repeat (quiet_step (first | (with_reducible exact Calls.regrown_of (yx cW _ ((yx HSk).kept (below_regrown _ _ _))))))
      refine wpQuiet_nil ?_
      intro _ hw'
      obtain ⟨⟨dq, osq⟩, hw''⟩ := hw'
      subst hw''
      have hx := below_call (yx HB1) (below_regrown W1 dq osq)
      generalize grow (redrawn W1 dq) osq = W2 at hx ⊢
      have HB2 := yz hx
      clear hx HB1 HB cW HSk r0 r1 r2 r3
      cases hok : okAt L k
      · obtain ⟨why, hwhy⟩ := whyV_no hok
        have HO := yz (whySky_at (by rw [yx HL]; omega) (by rw [yx HL]; exact hkn) (yx HF) hok)
        rw [hwhy] at HO ⊢
        unfold faultA at HO ⊢
        clear hok hwhy
        go_wp2_with fail
        go_ret
        exact ⟨by rw [yx HO]; rfl, yx HB2⟩
      · rw [whyV_ok hok]
        have HF2 := yz (ok_step (yx HF) hok)
        clear hok
        go_wp2_with fail
        go_roundw
        case rel => exact ⟨k + 1, by omega, by go_num, HF2, HB2⟩
        case measure => simp [intOf]; omega
    · have hkn' : k = n := by omega
      subst hkn'
      have HO := yz (whySky_ok (L := L) (by rw [yx HL]; omega) (by rw [yx HL]; exact yx HF))
      go_wp2_with fail
      go_ret
      exact ⟨by rw [yx HO]; rfl, yx HB⟩
set_option maxHeartbeats 1000000 in
set_option maxRecDepth 100000 in
theorem skyRight_any (L : List St) (a : Option Addr) (c : Nat) (p : Addr) (w : World) (hn : L.length ≤ 1048576) (hcap : L.length ≤ c) (hc9 : c ≤ 9223372036854775807) (hS : Stars w a L L.length) (hE : ErrSky p w) :
    Calls Tryz.prog 92 #[.slice a L.length c] w fun e w' => e = .returned (.bool (skyB L)) ∧ Below w.heap.size w w' := by
  have r0 := cell_regrown (show w.cell? ⟨1, 0, none⟩ = some (.iface 309 (.pointer (some p))) from hE)
  have HS := yz hS
  have HE := yz hE
  clear hS hE
  cases hk : skyB L
  · obtain ⟨why, hwhy⟩ := whySky_no hk
    have cW : Hid (∀ W : World, Stars W a L L.length → Calls Tryz.prog 127 #[.slice a L.length c] W fun e w' => e = .returned (.iface 215 (.agg #[.string why])) ∧ Below W.heap.size W w') := yz (fun W hW => (whyNoSky_any L a c W hn hcap hc9 hW).mono fun e w' h => ⟨by rw [h.1, hwhy]; rfl, h.2⟩)
    have cI := yz (fun (W : World) (hW : ErrSky p W) => is_fault why p W hW)
    clear hwhy hk
    go_enter Tryz.func92, Tryz.ntmps92
    go_wp2_with fail
    refine wp_region_quiet_below (by kernel_rfl) (by kernel_rfl) ?_
    repeat (quiet_step (first | (with_reducible exact Calls.regrown_of (yx cW _ ((yx HS).kept (below_regrown _ _ _)))) | (with_reducible exact Calls.regrown_of (yx cI _ ((yx HE).kept (below_regrown _ _ _))))))
    refine wpQuiet_nil ?_
    intro _ hw'
    obtain ⟨⟨dq, osq⟩, hw''⟩ := hw'
    subst hw''
    have hx := below_regrown w dq osq
    go_wp2_with fail
    go_ret
    exact ⟨rfl, hx⟩
  · have cW : Hid (∀ W : World, Stars W a L L.length → Calls Tryz.prog 127 #[.slice a L.length c] W fun e w' => e = .returned .nilIface ∧ Below W.heap.size W w') := yz (fun W hW => (whyNoSky_any L a c W hn hcap hc9 hW).mono fun e w' h => ⟨by rw [h.1, whySky_yes hk], h.2⟩)
    have cI : Hid (∀ W : World, Calls Tryz.prog 126 #[.nilIface, .iface 309 (.pointer (some p))] W fun e w' => e = .returned (.bool false) ∧ Below W.heap.size W w') := yz (fun W => (is_nil p W).mono fun e w' h => ⟨h.1, by rw [h.2]; exact Below.refl _ _⟩)
    clear hk
    go_enter Tryz.func92, Tryz.ntmps92
    go_wp2_with fail
    refine wp_region_quiet_below (by kernel_rfl) (by kernel_rfl) ?_
    repeat (quiet_step (first | (with_reducible exact Calls.regrown_of (yx cW _ ((yx HS).kept (below_regrown _ _ _)))) | (with_reducible exact Calls.regrown_of (yx cI _))))
    refine wpQuiet_nil ?_
    intro _ hw'
    obtain ⟨⟨dq, osq⟩, hw''⟩ := hw'
    subst hw''
    have hx := below_regrown w dq osq
    go_wp2_with fail
    go_ret
    exact ⟨rfl, hx⟩
end Go.Proofs.YteoonaanoenjiaaGreatDoor
