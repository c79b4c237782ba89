/- Plain facts on turns of whole numbers: which are right, how one is made right, what it does to a direction, what two are together; nothing of the program in them. -/
import Derived.Test.YtnffnjljjecphaaDoorVecMath
namespace Go.Proofs.YtnffnjljjecphaaDoor
open Go.RowKit
set_option linter.unusedVariables false

def inT (m a b c d : Int) : Bool := inB m a && inB m b && inB m c && inB m d
def zeroT (a b c d : Int) : Bool := decide (a = 0 ∧ b = 0 ∧ c = 0 ∧ d = 0)
def fT (a b c d : Int) : Int := if a ≠ 0 then a else if b ≠ 0 then b else if c ≠ 0 then c else d
def gT (a b c d : Int) : Int := ((Int.gcd ((Int.gcd a b : Nat) : Int) ((Int.gcd c d : Nat) : Int) : Nat) : Int)
def sT (a b c d : Int) : Int := if fT a b c d < 0 then -gT a b c d else gT a b c d
def rightT (a b c d : Int) : Bool := inT 5 a b c d && decide (0 < fT a b c d) && decide (gT a b c d = 1)
def eqT (a b c d a' b' c' d' : Int) : Bool := decide (a = a' ∧ b = b' ∧ c = c' ∧ d = d')

theorem inT_iff {m a b c d : Int} : inT m a b c d = true ↔ (-m ≤ a ∧ a ≤ m) ∧ (-m ≤ b ∧ b ≤ m) ∧ (-m ≤ c ∧ c ≤ m) ∧ (-m ≤ d ∧ d ≤ m) := by
  simp [inT, inB_iff, and_assoc]
theorem inT_mono {m n a b c d : Int} (h : inT m a b c d = true) (hmn : m ≤ n) : inT n a b c d = true := by
  rw [inT_iff] at h ⊢; omega
theorem fT_zero {a b c d : Int} : fT a b c d = 0 ↔ (a = 0 ∧ b = 0 ∧ c = 0 ∧ d = 0) := by
  unfold fT
  split
  · omega
  · split
    · omega
    · split <;> omega
theorem fT_mem (a b c d : Int) : fT a b c d = a ∨ fT a b c d = b ∨ fT a b c d = c ∨ fT a b c d = d := by
  unfold fT
  split
  · exact .inl rfl
  · split
    · exact .inr (.inl rfl)
    · split
      · exact .inr (.inr (.inl rfl))
      · exact .inr (.inr (.inr rfl))
theorem gT_nonneg (a b c d : Int) : 0 ≤ gT a b c d := Int.natCast_nonneg _
theorem gT_pos {a b c d : Int} (h : ¬ (a = 0 ∧ b = 0 ∧ c = 0 ∧ d = 0)) : 0 < gT a b c d := by
  unfold gT
  have h2 : Int.gcd ((Int.gcd a b : Nat) : Int) ((Int.gcd c d : Nat) : Int) ≠ 0 := by
    intro e
    rw [Int.gcd_eq_zero_iff] at e
    have e1 : Int.gcd a b = 0 := by omega
    have e2 : Int.gcd c d = 0 := by omega
    rw [Int.gcd_eq_zero_iff] at e1 e2
    exact h ⟨e1.1, e1.2, e2.1, e2.2⟩
  omega
theorem gT_dvd (a b c d : Int) : gT a b c d ∣ a ∧ gT a b c d ∣ b ∧ gT a b c d ∣ c ∧ gT a b c d ∣ d := by
  have h1 := Int.gcd_dvd_left (a := ((Int.gcd a b : Nat) : Int)) (b := ((Int.gcd c d : Nat) : Int))
  have h2 := Int.gcd_dvd_right (a := ((Int.gcd a b : Nat) : Int)) (b := ((Int.gcd c d : Nat) : Int))
  exact ⟨Int.dvd_trans h1 (Int.gcd_dvd_left ..), Int.dvd_trans h1 (Int.gcd_dvd_right ..), Int.dvd_trans h2 (Int.gcd_dvd_left ..), Int.dvd_trans h2 (Int.gcd_dvd_right ..)⟩
theorem gcd_four (a b c d : Int) : ((Int.gcd ((Int.gcd ((Int.gcd ((Int.gcd 0 a : Nat) : Int) b : Nat) : Int) c : Nat) : Int) d : Nat) : Int) = gT a b c d := by
  unfold gT
  have h1 : Int.gcd ((Int.gcd 0 a : Nat) : Int) b = Int.gcd a b := by
    rw [Int.gcd_zero_left]
    show Nat.gcd (a.natAbs : Int).natAbs b.natAbs = Nat.gcd a.natAbs b.natAbs
    rw [Int.natAbs_natCast]
  rw [h1]
  show ((Nat.gcd (Nat.gcd (Int.gcd a b) c.natAbs) d.natAbs : Nat) : Int) = ((Nat.gcd (Int.gcd a b) (Nat.gcd c.natAbs d.natAbs) : Nat) : Int)
  rw [Nat.gcd_assoc]
theorem sT_ne {a b c d : Int} (h : ¬ (a = 0 ∧ b = 0 ∧ c = 0 ∧ d = 0)) : sT a b c d ≠ 0 := by
  have := gT_pos h
  unfold sT
  split <;> omega
theorem sT_dvd (a b c d : Int) : sT a b c d ∣ a ∧ sT a b c d ∣ b ∧ sT a b c d ∣ c ∧ sT a b c d ∣ d := by
  have h := gT_dvd a b c d
  unfold sT
  split
  · exact ⟨Int.neg_dvd.2 h.1, Int.neg_dvd.2 h.2.1, Int.neg_dvd.2 h.2.2.1, Int.neg_dvd.2 h.2.2.2⟩
  · exact h

theorem tdiv_self_eq {f s : Int} (hf : f ≠ 0) (h : f.tdiv s = f) : s = 1 := by
  have hn : f.natAbs / s.natAbs = f.natAbs := by
    have e : (f.tdiv s).natAbs = f.natAbs / s.natAbs := Int.natAbs_tdiv f s
    rw [← e, h]
  have h0 : s.natAbs ≠ 0 := by
    intro e
    rw [e, Nat.div_zero] at hn
    omega
  have h1 : s.natAbs < 2 := by
    rcases Nat.lt_or_ge s.natAbs 2 with h | h
    · exact h
    · have := Nat.div_lt_self (n := f.natAbs) (k := s.natAbs) (by omega) h
      omega
  rcases (show s = 1 ∨ s = -1 by omega) with e | e
  · exact e
  · rw [e, Int.tdiv_neg, Int.tdiv_one] at h
    omega
theorem tdiv_le {m x s : Int} (hx : -m ≤ x ∧ x ≤ m) : -m ≤ x.tdiv s ∧ x.tdiv s ≤ m := by
  have h : (x.tdiv s).natAbs ≤ x.natAbs := by rw [Int.natAbs_tdiv]; exact Nat.div_le_self _ _
  omega
theorem right_reduced {a b c d : Int} (hz : ¬ (a = 0 ∧ b = 0 ∧ c = 0 ∧ d = 0)) :
    eqT a b c d (a.tdiv (sT a b c d)) (b.tdiv (sT a b c d)) (c.tdiv (sT a b c d)) (d.tdiv (sT a b c d)) = (decide (0 < fT a b c d) && decide (gT a b c d = 1)) := by
  have hf : fT a b c d ≠ 0 := fun e => hz (fT_zero.1 e)
  rw [Bool.eq_iff_iff, Bool.and_eq_true, decide_eq_true_iff, decide_eq_true_iff]
  unfold eqT
  rw [decide_eq_true_iff]
  constructor
  · rintro ⟨h1, h2, h3, h4⟩
    have hs : sT a b c d = 1 := by
      rcases fT_mem a b c d with e | e | e | e
      · exact tdiv_self_eq (e ▸ hf) h1.symm
      · exact tdiv_self_eq (e ▸ hf) h2.symm
      · exact tdiv_self_eq (e ▸ hf) h3.symm
      · exact tdiv_self_eq (e ▸ hf) h4.symm
    have hg := gT_nonneg a b c d
    unfold sT at hs
    split at hs <;> omega
  · rintro ⟨h1, h2⟩
    have hs : sT a b c d = 1 := by unfold sT; rw [if_neg (by omega), h2]
    rw [hs]
    simp [Int.tdiv_one]
theorem rightT_iff {a b c d : Int} : rightT a b c d = true ↔ inT 5 a b c d = true ∧ 0 < fT a b c d ∧ gT a b c d = 1 := by
  simp [rightT, and_assoc]
theorem rightT_ne {a b c d : Int} (h : rightT a b c d = true) : ¬ (a = 0 ∧ b = 0 ∧ c = 0 ∧ d = 0) := by
  have := (rightT_iff.1 h).2.1
  intro e
  rw [fT_zero.2 e] at this
  omega

/- TurnOf -/
def ofC (a b c d : Int) : Int :=
  if inT 1000 a b c d && !zeroT a b c d then
    if rightT (a.tdiv (sT a b c d)) (b.tdiv (sT a b c d)) (c.tdiv (sT a b c d)) (d.tdiv (sT a b c d)) then 0 else 9
  else 1
def ofP (a b c d x : Int) : Int := if ofC a b c d = 0 then x.tdiv (sT a b c d) else 0
theorem ofC_form {a b c d : Int} (h : (inT 1000 a b c d && !zeroT a b c d) = false) : ofC a b c d = 1 := by unfold ofC; rw [h]; rfl
theorem zeroT_iff {a b c d : Int} : zeroT a b c d = true ↔ (a = 0 ∧ b = 0 ∧ c = 0 ∧ d = 0) := by simp [zeroT]
theorem ofC_right {a b c d : Int} (h : ofC a b c d = 0) : inT 1000 a b c d = true ∧ ¬ (a = 0 ∧ b = 0 ∧ c = 0 ∧ d = 0) ∧ rightT (a.tdiv (sT a b c d)) (b.tdiv (sT a b c d)) (c.tdiv (sT a b c d)) (d.tdiv (sT a b c d)) = true := by
  unfold ofC at h
  split at h
  · next h1 =>
    rw [Bool.and_eq_true, Bool.not_eq_true'] at h1
    split at h
    · next h2 => exact ⟨h1.1, fun e => by rw [zeroT_iff.2 e] at h1; exact absurd h1.2 (by decide), h2⟩
    · exact absurd h (by decide)
  · exact absurd h (by decide)
theorem of_right {a b c d : Int} (h : rightT a b c d = true) : ofC a b c d = 0 ∧ sT a b c d = 1 := by
  have h' := rightT_iff.1 h
  have hs : sT a b c d = 1 := by unfold sT; rw [if_neg (by omega), h'.2.2]
  refine ⟨?_, hs⟩
  unfold ofC
  rw [hs, Int.tdiv_one, Int.tdiv_one, Int.tdiv_one, Int.tdiv_one, h, inT_mono h'.1 (by omega)]
  have : zeroT a b c d = false := by
    rw [← Bool.not_eq_true, zeroT_iff]; exact rightT_ne h
  rw [this]; rfl
theorem fT_neg (a b c d : Int) : fT (-a) (-b) (-c) (-d) = -fT a b c d := by
  unfold fT
  by_cases h1 : a = 0
  · by_cases h2 : b = 0
    · by_cases h3 : c = 0
      · simp [h1, h2, h3]
      · simp [h1, h2, h3]
    · simp [h1, h2]
  · simp [h1]
theorem gT_neg (a b c d : Int) : gT (-a) (-b) (-c) (-d) = gT a b c d := by
  unfold gT
  simp [Int.gcd_neg, Int.neg_gcd]
theorem gT_negs (a b c d : Int) : gT a (-b) (-c) (-d) = gT a b c d := by
  unfold gT
  simp [Int.gcd_neg, Int.neg_gcd]
/- what is turned back: the sign by which all parts go -/
def bS (a : Int) : Int := if a = 0 then -1 else 1
theorem back_s {a b c d : Int} (h : rightT a b c d = true) : sT a (-b) (-c) (-d) = bS a ∧ ofC a (-b) (-c) (-d) = 0 := by
  have h' := rightT_iff.1 h
  have hi := inT_iff.1 h'.1
  have hz := rightT_ne h
  have hg : gT a (-b) (-c) (-d) = 1 := by rw [gT_negs]; exact h'.2.2
  have hs : sT a (-b) (-c) (-d) = bS a := by
    unfold sT bS
    rw [hg]
    by_cases ha : a = 0
    · subst ha
      have e : fT 0 (-b) (-c) (-d) = -fT 0 b c d := by have := fT_neg 0 b c d; simpa using this
      rw [e, if_pos (by omega), if_pos rfl]
    · have e : fT a (-b) (-c) (-d) = a := by unfold fT; rw [if_pos ha]
      have e2 : fT a b c d = a := by unfold fT; rw [if_pos ha]
      rw [e, if_neg (by omega), if_neg ha]
  refine ⟨hs, ?_⟩
  unfold ofC
  have hin : inT 1000 a (-b) (-c) (-d) = true := by rw [inT_iff]; omega
  have hzt : zeroT a (-b) (-c) (-d) = false := by rw [← Bool.not_eq_true, zeroT_iff]; omega
  rw [hin, hzt, hs]
  have hr : rightT (a.tdiv (bS a)) ((-b).tdiv (bS a)) ((-c).tdiv (bS a)) ((-d).tdiv (bS a)) = true := by
    unfold bS
    split
    · next e =>
      subst e
      simp only [Int.tdiv_neg, Int.tdiv_one, Int.neg_neg, Int.neg_zero]
      exact h
    · next e =>
      simp only [Int.tdiv_one]
      rw [rightT_iff]
      refine ⟨by rw [inT_iff]; omega, ?_, hg⟩
      have e1 : fT a (-b) (-c) (-d) = a := by unfold fT; rw [if_pos e]
      have e2 : fT a b c d = a := by unfold fT; rw [if_pos e]
      omega
  rw [hr]; rfl
theorem bS_cases (a : Int) : bS a = 1 ∨ bS a = -1 := by unfold bS; split <;> simp
theorem bS_sq (a : Int) : bS a * bS a = 1 := by rcases bS_cases a with h | h <;> rw [h] <;> rfl
theorem tdiv_bS (a x : Int) : x.tdiv (bS a) = bS a * x := by
  rcases bS_cases a with h | h <;> rw [h] <;> simp [Int.tdiv_neg, Int.tdiv_one]
/- the parts of what turns back -/
def bkP (a b c d x : Int) : Int := if rightT a b c d then ofP a (-b) (-c) (-d) x else 0
theorem bkP_right {a b c d : Int} (h : rightT a b c d = true) (x : Int) : bkP a b c d x = bS a * x := by
  unfold bkP ofP
  rw [if_pos h, if_pos (back_s h).2, (back_s h).1, tdiv_bS]
theorem back_right {a b c d : Int} (h : rightT a b c d = true) : rightT (bS a * a) (bS a * -b) (bS a * -c) (bS a * -d) = true := by
  have h1 := (ofC_right (back_s h).2).2.2
  rw [(back_s h).1, tdiv_bS, tdiv_bS, tdiv_bS, tdiv_bS] at h1
  exact h1
theorem back_back {a b c d : Int} (h : rightT a b c d = true) : bS (bS a * a) * (bS a * a) = a ∧ bS (bS a * a) * -(bS a * -b) = b ∧ bS (bS a * a) * -(bS a * -c) = c ∧ bS (bS a * a) * -(bS a * -d) = d := by
  have e : bS (bS a * a) = bS a := by
    unfold bS
    split
    · next e => subst e; simp
    · next e => simp [e]
  have sq := bS_sq a
  rw [e]
  refine ⟨?_, ?_, ?_, ?_⟩ <;> grind
/- the square of a turn's length -/
def nT (a b c d : Int) : Int := a * a + b * b + c * c + d * d
theorem sqn (x : Int) : 0 ≤ x * x := by rw [← Int.natAbs_mul_self' x]; exact Int.natCast_nonneg _
theorem sqp {x : Int} (h : x ≠ 0) : 0 < x * x := by
  have := sqn x
  have : x * x ≠ 0 := fun e => by rcases Int.mul_eq_zero.1 e with e | e <;> exact h e
  omega
theorem nT_pos {a b c d : Int} (h : ¬ (a = 0 ∧ b = 0 ∧ c = 0 ∧ d = 0)) : 0 < nT a b c d := by
  have h1 := sqn a
  have h2 := sqn b
  have h3 := sqn c
  have h4 := sqn d
  unfold nT
  by_cases ha : a = 0
  · by_cases hb : b = 0
    · by_cases hc : c = 0
      · have := sqp (x := d) (fun e => h ⟨ha, hb, hc, e⟩); omega
      · have := sqp hc; omega
    · have := sqp hb; omega
  · have := sqp ha; omega
theorem nT_le {a b c d : Int} (h : inT 5 a b c d = true) : nT a b c d ≤ 100 := by
  rw [inT_iff] at h
  have h1 := mulB h.1 h.1
  have h2 := mulB h.2.1 h.2.1
  have h3 := mulB h.2.2.1 h.2.2.1
  have h4 := mulB h.2.2.2 h.2.2.2
  unfold nT
  omega
/- what a turn does to a direction -/
def apX (a b c d x y z : Int) : Int := (a * a + b * b - c * c - d * d) * x + 2 * (b * c - a * d) * y + 2 * (b * d + a * c) * z
def apY (a b c d x y z : Int) : Int := 2 * (b * c + a * d) * x + (a * a - b * b + c * c - d * d) * y + 2 * (c * d - a * b) * z
def apZ (a b c d x y z : Int) : Int := 2 * (b * d - a * c) * x + 2 * (c * d + a * b) * y + (a * a - b * b - c * c + d * d) * z
theorem ap_dot (a b c d x y z x' y' z' : Int) :
    dot (apX a b c d x y z) (apY a b c d x y z) (apZ a b c d x y z) (apX a b c d x' y' z') (apY a b c d x' y' z') (apZ a b c d x' y' z') = nT a b c d * nT a b c d * dot x y z x' y' z' := by
  unfold dot apX apY apZ nT
  grind
theorem ap_back (a b c d x y z : Int) :
    apX a (-b) (-c) (-d) (apX a b c d x y z) (apY a b c d x y z) (apZ a b c d x y z) = nT a b c d * nT a b c d * x ∧
    apY a (-b) (-c) (-d) (apX a b c d x y z) (apY a b c d x y z) (apZ a b c d x y z) = nT a b c d * nT a b c d * y ∧
    apZ a (-b) (-c) (-d) (apX a b c d x y z) (apY a b c d x y z) (apZ a b c d x y z) = nT a b c d * nT a b c d * z := by
  unfold apX apY apZ nT
  refine ⟨?_, ?_, ?_⟩ <;> grind
theorem ap_scale (k a b c d x y z : Int) : apX (k * a) (k * b) (k * c) (k * d) x y z = k * k * apX a b c d x y z ∧ apY (k * a) (k * b) (k * c) (k * d) x y z = k * k * apY a b c d x y z ∧ apZ (k * a) (k * b) (k * c) (k * d) x y z = k * k * apZ a b c d x y z := by
  unfold apX apY apZ
  refine ⟨?_, ?_, ?_⟩ <;> grind
theorem ap_lin (k a b c d x y z : Int) : apX a b c d (k * x) (k * y) (k * z) = k * apX a b c d x y z ∧ apY a b c d (k * x) (k * y) (k * z) = k * apY a b c d x y z ∧ apZ a b c d (k * x) (k * y) (k * z) = k * apZ a b c d x y z := by
  unfold apX apY apZ
  refine ⟨?_, ?_, ?_⟩ <;> grind
/- two turns together -/
def coA (s1 s2 s3 s4 t1 t2 t3 t4 : Int) : Int := s1 * t1 - s2 * t2 - s3 * t3 - s4 * t4
def coB (s1 s2 s3 s4 t1 t2 t3 t4 : Int) : Int := s1 * t2 + s2 * t1 + s3 * t4 - s4 * t3
def coC (s1 s2 s3 s4 t1 t2 t3 t4 : Int) : Int := s1 * t3 - s2 * t4 + s3 * t1 + s4 * t2
def coD (s1 s2 s3 s4 t1 t2 t3 t4 : Int) : Int := s1 * t4 + s2 * t3 - s3 * t2 + s4 * t1
theorem ap_co (s1 s2 s3 s4 t1 t2 t3 t4 x y z : Int) :
    apX (coA s1 s2 s3 s4 t1 t2 t3 t4) (coB s1 s2 s3 s4 t1 t2 t3 t4) (coC s1 s2 s3 s4 t1 t2 t3 t4) (coD s1 s2 s3 s4 t1 t2 t3 t4) x y z = apX s1 s2 s3 s4 (apX t1 t2 t3 t4 x y z) (apY t1 t2 t3 t4 x y z) (apZ t1 t2 t3 t4 x y z) ∧
    apY (coA s1 s2 s3 s4 t1 t2 t3 t4) (coB s1 s2 s3 s4 t1 t2 t3 t4) (coC s1 s2 s3 s4 t1 t2 t3 t4) (coD s1 s2 s3 s4 t1 t2 t3 t4) x y z = apY s1 s2 s3 s4 (apX t1 t2 t3 t4 x y z) (apY t1 t2 t3 t4 x y z) (apZ t1 t2 t3 t4 x y z) ∧
    apZ (coA s1 s2 s3 s4 t1 t2 t3 t4) (coB s1 s2 s3 s4 t1 t2 t3 t4) (coC s1 s2 s3 s4 t1 t2 t3 t4) (coD s1 s2 s3 s4 t1 t2 t3 t4) x y z = apZ s1 s2 s3 s4 (apX t1 t2 t3 t4 x y z) (apY t1 t2 t3 t4 x y z) (apZ t1 t2 t3 t4 x y z) := by
  unfold apX apY apZ coA coB coC coD
  refine ⟨?_, ?_, ?_⟩ <;> grind
end Go.Proofs.YtnffnjljjecphaaDoor
