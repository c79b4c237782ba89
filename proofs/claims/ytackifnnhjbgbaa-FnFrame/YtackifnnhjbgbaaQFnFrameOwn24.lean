/- Several texts in one: BlE. -/
import Derived.Test.YtackifnnhjbgbaaQFnFrameOwn23
namespace Go.Proofs.Ytackifnnhjbgbaa
set_option linter.unusedVariables false
set_option linter.unusedSimpArgs false
set_option maxRecDepth 100000
set_option maxHeartbeats 8000000
section
open Go.RowKit Go.Sort
def iv (c : Nat) : Nat → Int
 | 0 => (c : Int) - 1
 | 1 => (c : Int) + 1
 | _ => (c : Int)
def iw (r : Nat) : Nat → Int
 | 2 => (r : Int) - 1
 | 3 => (r : Int) + 1
 | _ => (r : Int)
def eF (f : Fr) (T : Nat → Bool) (x y : Int) : Bool := aT f.wd f.ht x y && bH f T (y.toNat * f.wd + x.toNat)
def aC (f : Fr) (s : (Nat → Bool) × List Nat) (x y : Int) : (Nat → Bool) × List Nat := if eF f s.1 x y = true then (mark s.1 (y.toNat * f.wd + x.toNat), s.2 ++ [y.toNat * f.wd + x.toNat]) else s
def aw (f : Fr) (s : (Nat → Bool) × List Nat) (c r : Nat) : Nat → (Nat → Bool) × List Nat
 | 0 => s
 | m + 1 => aC f (aw f s c r m) (iv c m) (iw r m)
theorem cw {f : Fr} {s : (Nat → Bool) × List Nat} {x y : Int} (h : aT f.wd f.ht x y = false) : aC f s x y = s := by unfold aC eF; rw [h, Bool.false_and, if_neg (by simp)]
theorem dp {f : Fr} {s : (Nat → Bool) × List Nat} {x y : Int} {q : Nat} (h : aT f.wd f.ht x y = true) (hq : y.toNat * f.wd + x.toNat = q) : aC f s x y = bo f s q := by unfold aC eF bo; rw [h, Bool.true_and, hq]
theorem iW {f : Fr} {p : Nat} (hp : p < f.n) (s : (Nat → Bool) × List Nat) : aw f s (p % f.wd) (p / f.wd) 4 = aO f s (aE f p) := by
 have hw : 0 < f.wd := by
  rcases Nat.eq_zero_or_pos f.wd with h | h
  ·rw [Fr.n, h, Nat.zero_mul] at hp; omega
  ·exact h
 have hdm := Nat.div_add_mod p f.wd
 have hmod := Nat.mod_lt p hw
 have hdiv : p / f.wd < f.ht := Nat.div_lt_of_lt_mul hp
 unfold aE
 generalize hc : p % f.wd = c at *
 generalize hr : p / f.wd = r at *
 have hrw : r * f.wd = f.wd * r := Nat.mul_comm _ _
 show aC f (aC f (aC f (aC f s ((c : Int) - 1) r) ((c : Int) + 1) r) c ((r : Int) - 1)) c ((r : Int) + 1) = _
 unfold aO
 rw [List.foldl_append, List.foldl_append, List.foldl_append]
 have s1 : ∀ s, aC f s ((c : Int) - 1) r = (if 0 < c then [p - 1] else []).foldl (bo f) s := fun s => by
  by_cases h : 0 < c
  ·rw [if_pos h, dp (q := p - 1) (decide_eq_true (by omega))]
   ·rfl
   ·rw [show ((c : Int) - 1).toNat = c - 1 by omega, Int.toNat_natCast]; omega
  ·rw [if_neg h, cw (decide_eq_false (by omega))]; rfl
 have s2 : ∀ s, aC f s ((c : Int) + 1) r = (if c < f.wd - 1 then [p + 1] else []).foldl (bo f) s := fun s => by
  by_cases h : c < f.wd - 1
  ·rw [if_pos h, dp (q := p + 1) (decide_eq_true (by omega))]
   ·rfl
   ·rw [show ((c : Int) + 1).toNat = c + 1 by omega, Int.toNat_natCast]; omega
  ·rw [if_neg h, cw (decide_eq_false (by omega))]; rfl
 have s3 : ∀ s, aC f s c ((r : Int) - 1) = (if 0 < r then [p - f.wd] else []).foldl (bo f) s := fun s => by
  by_cases h : 0 < r
  ·rw [if_pos h, dp (q := p - f.wd) (decide_eq_true (by omega))]
   ·rfl
   ·rw [show ((r : Int) - 1).toNat = r - 1 by omega, Int.toNat_natCast, Nat.sub_mul, hrw]
    have : f.wd * 1 ≤ f.wd * r := Nat.mul_le_mul_left _ h
    omega
  ·rw [if_neg h, cw (decide_eq_false (by omega))]; rfl
 have s4 : ∀ s, aC f s c ((r : Int) + 1) = (if r < f.ht - 1 then [p + f.wd] else []).foldl (bo f) s := fun s => by
  by_cases h : r < f.ht - 1
  ·rw [if_pos h, dp (q := p + f.wd) (decide_eq_true (by omega))]
   ·rfl
   ·rw [show ((r : Int) + 1).toNat = r + 1 by omega, Int.toNat_natCast, Nat.add_mul, hrw]; omega
  ·rw [if_neg h, cw (decide_eq_false (by omega))]; rfl
 rw [s1, s2, s3, s4]
theorem fv (wd ht : Nat) (s : ByteArray) (lv : Int) (T : Nat → Bool) (x y : Int) : eG wd ht s lv T x y = eF (aK wd ht s lv) T x y := rfl
theorem bU {f : Fr} {T : Nat → Bool} {x y : Int} (h : eF f T x y = true) : aT f.wd f.ht x y = true := by
 unfold eF at h
 rw [Bool.and_eq_true] at h
 exact h.1
theorem dr (x y : Int) (tb wd ht : Nat) (T : Nat → Bool) (w : World) (hw : wd ≤ 16) (hh : ht ≤ 12) (hb : aT wd ht x y = true) (hT : ay w tb wd ht T) :
  Calls Try.prog 34 #[.agg #[.int .i64 x, .int .i64 y], .pointer (some ⟨tb, 0, none⟩)] w fun e w' => e = .returned (.tuple #[]) ∧ ay w' tb wd ht (mark T (y.toNat * wd + x.toNat)) ∧ w.grownBy w' (some tb) := by
 obtain ⟨h1, h2, h3, h4⟩ := of_decide_eq_true hb
 obtain ⟨xn, hxn⟩ := Int.eq_ofNat_of_zero_le h1
 obtain ⟨yn, hyn⟩ := Int.eq_ofNat_of_zero_le h3
 subst hxn hyn
 exact fZ xn yn tb wd ht T w hw hh (by omega) (by omega) hT
def iQ (wd q : Nat) : List Value := [.int .i64 ((q % wd : Nat) : Int), .int .i64 ((q / wd : Nat) : Int)]
def cC (wd : Nat) (l : List Nat) : List Value := l.flatMap (iQ wd)
theorem iR (wd : Nat) (a b : List Nat) : cC wd (a ++ b) = cC wd a ++ cC wd b := by unfold cC; rw [List.flatMap_append]
theorem gR (wd : Nat) (l : List Nat) : ∀ k, k < l.length → (cC wd l)[k * 2]? = some (.int .i64 ((l.getD k 0 % wd : Nat) : Int)) ∧ (cC wd l)[k * 2 + 1]? = some (.int .i64 ((l.getD k 0 / wd : Nat) : Int)) := by
 induction l with
 | nil => intro k hk; simp at hk
 | cons x l ih =>
  intro k hk
  match k with
  | 0 => exact ⟨rfl, rfl⟩
  | k + 1 =>
   have h := ih k (by simpa using hk)
   have e : ∀ r, (cC wd (x :: l))[(k + 1) * 2 + r]? = (cC wd l)[k * 2 + r]? := fun r => by
    rw [show (k + 1) * 2 + r = (k * 2 + r) + 2 by omega]
    rfl
   exact ⟨by have := e 0; simp only [Nat.add_zero] at this; rw [this]; exact h.1, by rw [e 1]; exact h.2⟩
theorem et {wd ht : Nat} {x y : Int} (h : aT wd ht x y = true) : iQ wd (y.toNat * wd + x.toNat) = [.int .i64 x, .int .i64 y] := by
 obtain ⟨h1, h2, h3, h4⟩ := of_decide_eq_true h
 obtain ⟨xn, hxn⟩ := Int.eq_ofNat_of_zero_le h1
 obtain ⟨yn, hyn⟩ := Int.eq_ofNat_of_zero_le h3
 subst hxn hyn
 have hx : xn < wd := by omega
 unfold iQ
 rw [Int.toNat_natCast, Int.toNat_natCast, Nat.mul_comm yn wd, Nat.mul_add_mod, Nat.mod_eq_of_lt hx, Nat.mul_add_div (by omega), Nat.div_eq_of_lt hx, Nat.add_zero]
end
end Go.Proofs.Ytackifnnhjbgbaa
