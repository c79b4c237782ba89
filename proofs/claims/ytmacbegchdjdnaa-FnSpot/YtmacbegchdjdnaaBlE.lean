/- The four places beside a pixel, tried one after another: plain facts; a taken pixel. -/
import Derived.Test.YtmacbegchdjdnaaBlD
namespace Go.Proofs.Ytmacbegchdjdnaa
open Go.RowKit Go.Sort
set_option linter.unusedVariables false

def candX (c : Nat) : Nat → Int
  | 0 => (c : Int) - 1
  | 1 => (c : Int) + 1
  | _ => (c : Int)
def candY (r : Nat) : Nat → Int
  | 2 => (r : Int) - 1
  | 3 => (r : Int) + 1
  | _ => (r : Int)
def litF (f : Fr) (T : Nat → Bool) (x y : Int) : Bool := holdsB f.wd f.ht x y && litP f T (y.toNat * f.wd + x.toNat)
def stepI (f : Fr) (s : (Nat → Bool) × List Nat) (x y : Int) : (Nat → Bool) × List Nat := if litF f s.1 x y = true then (mark s.1 (y.toNat * f.wd + x.toNat), s.2 ++ [y.toNat * f.wd + x.toNat]) else s
def sideI (f : Fr) (s : (Nat → Bool) × List Nat) (c r : Nat) : Nat → (Nat → Bool) × List Nat
  | 0 => s
  | m + 1 => stepI f (sideI f s c r m) (candX c m) (candY r m)
theorem stepI_out {f : Fr} {s : (Nat → Bool) × List Nat} {x y : Int} (h : holdsB f.wd f.ht x y = false) : stepI f s x y = s := by unfold stepI litF; rw [h, Bool.false_and, if_neg (by simp)]
theorem stepI_in {f : Fr} {s : (Nat → Bool) × List Nat} {x y : Int} {q : Nat} (h : holdsB f.wd f.ht x y = true) (hq : y.toNat * f.wd + x.toNat = q) : stepI f s x y = take1 f s q := by unfold stepI litF take1; rw [h, Bool.true_and, hq]
theorem sideI_eq {f : Fr} {p : Nat} (hp : p < f.n) (s : (Nat → Bool) × List Nat) : sideI f s (p % f.wd) (p / f.wd) 4 = passP f s (nextsP f p) := by
  have hw : 0 < f.wd := by
    rcases Nat.eq_zero_or_pos f.wd with h | h
    · rw [Fr.n, h, Nat.zero_mul] at hp; omega
    · exact h
  have hdm := Nat.div_add_mod p f.wd
  have hmod := Nat.mod_lt p hw
  have hdiv : p / f.wd < f.ht := Nat.div_lt_of_lt_mul hp
  unfold nextsP
  generalize hc : p % f.wd = c at *
  generalize hr : p / f.wd = r at *
  have hrw : r * f.wd = f.wd * r := Nat.mul_comm _ _
  show stepI f (stepI f (stepI f (stepI f s ((c : Int) - 1) r) ((c : Int) + 1) r) c ((r : Int) - 1)) c ((r : Int) + 1) = _
  unfold passP
  rw [List.foldl_append, List.foldl_append, List.foldl_append]
  have s1 : ∀ s, stepI f s ((c : Int) - 1) r = (if 0 < c then [p - 1] else []).foldl (take1 f) s := fun s => by
    by_cases h : 0 < c
    · rw [if_pos h, stepI_in (q := p - 1) (decide_eq_true (by omega))]
      · rfl
      · rw [show ((c : Int) - 1).toNat = c - 1 by omega, Int.toNat_natCast]; omega
    · rw [if_neg h, stepI_out (decide_eq_false (by omega))]; rfl
  have s2 : ∀ s, stepI f s ((c : Int) + 1) r = (if c < f.wd - 1 then [p + 1] else []).foldl (take1 f) s := fun s => by
    by_cases h : c < f.wd - 1
    · rw [if_pos h, stepI_in (q := p + 1) (decide_eq_true (by omega))]
      · rfl
      · rw [show ((c : Int) + 1).toNat = c + 1 by omega, Int.toNat_natCast]; omega
    · rw [if_neg h, stepI_out (decide_eq_false (by omega))]; rfl
  have s3 : ∀ s, stepI f s c ((r : Int) - 1) = (if 0 < r then [p - f.wd] else []).foldl (take1 f) s := fun s => by
    by_cases h : 0 < r
    · rw [if_pos h, stepI_in (q := p - f.wd) (decide_eq_true (by omega))]
      · rfl
      · rw [show ((r : Int) - 1).toNat = r - 1 by omega, Int.toNat_natCast, Nat.sub_mul, hrw]
        have : f.wd * 1 ≤ f.wd * r := Nat.mul_le_mul_left _ h
        omega
    · rw [if_neg h, stepI_out (decide_eq_false (by omega))]; rfl
  have s4 : ∀ s, stepI f s c ((r : Int) + 1) = (if r < f.ht - 1 then [p + f.wd] else []).foldl (take1 f) s := fun s => by
    by_cases h : r < f.ht - 1
    · rw [if_pos h, stepI_in (q := p + f.wd) (decide_eq_true (by omega))]
      · rfl
      · rw [show ((r : Int) + 1).toNat = r + 1 by omega, Int.toNat_natCast, Nat.add_mul, hrw]; omega
    · rw [if_neg h, stepI_out (decide_eq_false (by omega))]; rfl
  rw [s1, s2, s3, s4]
theorem litI_F (wd ht : Nat) (s : ByteArray) (lv : Int) (T : Nat → Bool) (x y : Int) : litI wd ht s lv T x y = litF (frOf wd ht s lv) T x y := rfl
theorem litF_holds {f : Fr} {T : Nat → Bool} {x y : Int} (h : litF f T x y = true) : holdsB f.wd f.ht x y = true := by
  unfold litF at h
  rw [Bool.and_eq_true] at h
  exact h.1
theorem take_int (x y : Int) (tb wd ht : Nat) (T : Nat → Bool) (w : World) (hw : wd ≤ 16) (hh : ht ≤ 12) (hb : holdsB wd ht x y = true) (hT : TakenAt w tb wd ht T) :
    Calls Try.prog 51 #[.agg #[.int .i64 x, .int .i64 y], .pointer (some ⟨tb, 0, none⟩)] w fun e w' => e = .returned (.tuple #[]) ∧ TakenAt w' tb wd ht (mark T (y.toNat * wd + x.toNat)) ∧ w.grownBy w' (some tb) := by
  obtain ⟨h1, h2, h3, h4⟩ := of_decide_eq_true hb
  obtain ⟨xn, hxn⟩ := Int.eq_ofNat_of_zero_le h1
  obtain ⟨yn, hyn⟩ := Int.eq_ofNat_of_zero_le h3
  subst hxn hyn
  exact take_any xn yn tb wd ht T w hw hh (by omega) (by omega) hT
/-- pixels by their numbers, as they lie in memory -/
def pixC (wd q : Nat) : List Value := [.int .i64 ((q % wd : Nat) : Int), .int .i64 ((q / wd : Nat) : Int)]
def pixL (wd : Nat) (l : List Nat) : List Value := l.flatMap (pixC wd)
theorem pixL_app (wd : Nat) (a b : List Nat) : pixL wd (a ++ b) = pixL wd a ++ pixL wd b := by unfold pixL; rw [List.flatMap_append]
theorem pixL_cell {wd : Nat} {l : List Nat} {v : Value} (h : v ∈ pixL wd l) : v.oneCell' = true := by
  unfold pixL at h
  rw [List.mem_flatMap] at h
  obtain ⟨p, _, hp⟩ := h
  simp [pixC] at hp
  rcases hp with rfl | rfl <;> rfl
theorem pixL_len (wd : Nat) (l : List Nat) : (pixL wd l).length = l.length * 2 := by
  unfold pixL
  induction l with
  | nil => rfl
  | cons x l ih => simp [List.flatMap_cons, pixC] at *; omega
theorem pixL_at (wd : Nat) (l : List Nat) : ∀ k, k < l.length → (pixL wd l)[k * 2]? = some (.int .i64 ((l.getD k 0 % wd : Nat) : Int)) ∧ (pixL wd l)[k * 2 + 1]? = some (.int .i64 ((l.getD k 0 / wd : Nat) : Int)) := by
  induction l with
  | nil => intro k hk; simp at hk
  | cons x l ih =>
    intro k hk
    match k with
    | 0 => exact ⟨rfl, rfl⟩
    | k + 1 =>
      have h := ih k (by simpa using hk)
      have e : ∀ r, (pixL wd (x :: l))[(k + 1) * 2 + r]? = (pixL wd l)[k * 2 + r]? := fun r => by
        rw [show (k + 1) * 2 + r = (k * 2 + r) + 2 by omega]
        rfl
      exact ⟨by have := e 0; simp only [Nat.add_zero] at this; rw [this]; exact h.1, by rw [e 1]; exact h.2⟩
theorem pix_of {wd ht : Nat} {x y : Int} (h : holdsB wd ht x y = true) : pixC wd (y.toNat * wd + x.toNat) = [.int .i64 x, .int .i64 y] := by
  obtain ⟨h1, h2, h3, h4⟩ := of_decide_eq_true h
  obtain ⟨xn, hxn⟩ := Int.eq_ofNat_of_zero_le h1
  obtain ⟨yn, hyn⟩ := Int.eq_ofNat_of_zero_le h3
  subst hxn hyn
  have hx : xn < wd := by omega
  unfold pixC
  rw [Int.toNat_natCast, Int.toNat_natCast, Nat.mul_comm yn wd, Nat.mul_add_mod, Nat.mod_eq_of_lt hx, Nat.mul_add_div (by omega), Nat.div_eq_of_lt hx, Nat.add_zero]
end Go.Proofs.Ytmacbegchdjdnaa
