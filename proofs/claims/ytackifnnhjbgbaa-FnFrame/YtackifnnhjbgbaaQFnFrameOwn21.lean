/- Several texts in one: MdA. -/
import Derived.Test.YtackifnnhjbgbaaQFnFrameOwn20
import Derived.Test.YtackifnnhjbgbaaQFnFrameOwn2
namespace Go.Proofs.Ytackifnnhjbgbaa
set_option linter.unusedVariables false
set_option linter.unusedSimpArgs false
set_option maxRecDepth 100000
set_option maxHeartbeats 8000000
section
open Go.RowKit
def cEq (s : ByteArray) (c : Nat) : Nat → Nat
 | 0 => 0
 | i + 1 => cEq s c i + if ao s i = c then 1 else 0
def cLt (s : ByteArray) : Nat → Nat
 | 0 => 0
 | c + 1 => cLt s c + cEq s c s.size
def gL (s : ByteArray) (v : Nat) : Prop := s.size ≤ 2 * cLt s (v + 1) ∧ ∀ c, c < v → 2 * cLt s (c + 1) < s.size
theorem hE {s : ByteArray} {u v : Nat} (h : gL s u) (g : gL s v) : u = v := by
 rcases Nat.lt_trichotomy u v with c | c | c
 ·have := g.2 u c; have := h.1; omega
 ·exact c
 ·have := h.2 v c; have := g.1; omega
def dv (s : ByteArray) (c : Nat) : Nat → Nat
 | 0 => 0
 | i + 1 => dv s c i + if ao s i < c then 1 else 0
theorem eN (s : ByteArray) (c : Nat) : ∀ i, dv s (c + 1) i = dv s c i + cEq s c i
 | 0 => rfl
 | i + 1 => by
  unfold dv cEq
  rw [eN s c i]
  split <;> split <;> split <;> omega
theorem fo (s : ByteArray) : ∀ c, cLt s c = dv s c s.size
 | 0 => by
  have h : ∀ i, dv s 0 i = 0 := fun i => by
   induction i with
   | zero => rfl
   | succ i ih => unfold dv; rw [ih, if_neg (by omega)]
  rw [h]; rfl
 | c + 1 => by rw [cLt, fo s c, eN]
theorem gN (s : ByteArray) (c : Nat) : ∀ i, dv s c i ≤ i
 | 0 => Nat.le_refl _
 | i + 1 => by unfold dv; have := gN s c i; split <;> omega
theorem dU (s : ByteArray) (i : Nat) : ao s i < 256 := by
 unfold ao
 split
 ·exact UInt8.toNat_lt _
 ·omega
theorem fM (s : ByteArray) : ∀ i, dv s 256 i = i
 | 0 => rfl
 | i + 1 => by unfold dv; rw [fM s i, if_pos (dU s i)]
def gf (wd ht : Int) (s : ByteArray) (v : Int) : Prop := (av wd ht s = false ∧ v = 0) ∨ (av wd ht s = true ∧ ∃ k : Nat, v = (k : Int) ∧ gL s k)
theorem fT {wd ht : Int} {s : ByteArray} {u v : Int} (h : gf wd ht s u) (g : gf wd ht s v) : u = v := by
 rcases h with ⟨h1, rfl⟩ | ⟨h1, k, rfl, hk⟩ <;> rcases g with ⟨g1, rfl⟩ | ⟨g1, m, rfl, hm⟩
 ·rfl
 ·rw [h1] at g1; cases g1
 ·rw [h1] at g1; cases g1
 ·rw [hE hk hm]
theorem dD {wd ht : Int} {n : Nat} (h1 : 1 ≤ wd) (h2 : wd ≤ 16) (h3 : 1 ≤ ht) (h4 : ht ≤ 12) (h : (n : Int) = wd * ht) : n ≤ 192 := by
 have h5 : wd * ht ≤ 16 * 12 := Int.le_trans (Int.mul_le_mul_of_nonneg_right h2 (by omega)) (Int.mul_le_mul_of_nonneg_left h4 (by omega))
 omega
theorem ea {wd ht : Int} {n : Nat} (h1 : 1 ≤ wd) (h3 : 1 ≤ ht) (h : (n : Int) = wd * ht) : 1 ≤ n := by
 have h5 : 0 < wd * ht := Int.mul_pos (by omega) (by omega)
 omega
theorem ew (wd ht : Int) (s : ByteArray) (w : World) (hs : s.size ≤ maxLen) :
  Calls Try.prog 6 #[.agg #[.int .i64 wd, .int .i64 ht, .string s]] w fun e w' => (∃ v, e = .returned (.int .i64 v) ∧ gf wd ht s v) ∧ Below w.heap.size w w' := by
 have A0 := yz (al w [.int .i64 wd, .int .i64 ht, .string s] 26)
 have B0 := yz (an w (.cells #[.int .i64 wd, .int .i64 ht, .string s] 26))
 go_enter Try.func6, Try.ntmps6
 go_wp2_with fail
 generalize w.alloc (.cells #[.int .i64 wd, .int .i64 ht, .string s] 26) = W0 at *
 refine (aJ wd ht s _).mono ?_
 rintro e W1 ⟨rfl, hx⟩
 have A1 := yz ((yx A0).kept hx)
 have B1 := yz (aj (yx B0) hx)
 clear hx A0 B0
 cases hf : av wd ht s
 ·go_wp2_with fail
  go_ret
  exact ⟨⟨0, rfl, .inl ⟨hf, rfl⟩⟩, yx B1⟩
 obtain ⟨f1, f2, f3, f4, f5⟩ := au.1 hf
 have hn9 : s.size ≤ 192 := dD f1 f2 f3 f4 f5
 have hn1 : 1 ≤ s.size := ea f1 f3 f5
 have HF := yz hf
 clear hf f1 f2 f3 f4 f5 hs
 obtain ⟨n, hn⟩ : ∃ n, n = s.size := ⟨_, rfl⟩
 have hnz : (s.size : Int) = (n : Int) := by rw [hn]
 rw [← hn] at hn9 hn1
 have HN := yz hn
 clear hn
 go_wp2_with fail
 go_loopw [3, 4] (fun u v wr => ∃ (b c : Nat), u = .int .i64 b ∧ v = .int .i64 c ∧ c ≤ 256 ∧ b ≤ n ∧ Hid (b = cLt s c) ∧ Hid (∀ q, q < c → 2 * cLt s (q + 1) < n) ∧ Hid (Below W1.heap.size W1 wr)) (fun _ v _ => 256 - (intOf v).toNat)
 case atStart => exact ⟨0, 0, rfl, rfl, by omega, by omega, yz rfl, yz (fun q hq => absurd hq (Nat.not_lt_zero _)), yz (Below.refl _ _)⟩
 case round =>
  obtain ⟨b, c, rfl, rfl, hc, hbn, HB, HQ, HW⟩ := hrel
  by_cases hc2 : c < 256
  ·have hcz : (c : Int) < 256 := by omega
   go_wp2_with fail
   go_loopw [3, 5] (fun u v ws => ∃ (m i : Nat), u = .int .i64 m ∧ v = .int .i64 i ∧ i ≤ n ∧ m ≤ b + i ∧ Hid (m = cLt s c + cEq s c i) ∧ Hid (Below W1.heap.size W1 ws)) (fun _ v _ => n - (intOf v).toNat)
   case atStart => exact ⟨b, 0, rfl, rfl, by omega, by omega, yz (by rw [yx HB]; rfl), HW⟩
   case round =>
    obtain ⟨m, i, rfl, rfl, hi, hm, HM, HV⟩ := hrel
    clear HW
    have c2 := ((yx A1).kept (yx HV)).cell 2 _ rfl
    by_cases hin : i < n
    ·have hinz : (i : Int) < (n : Int) := by omega
     have his : i < s.size := by rw [← yx HN]; exact hin
     have hbv := aU his
     have hm9 : (m : Int) ≤ 1000 := by omega
     have HE : Hid (wrap64 (s[i].toNat : Int) = (s[i].toNat : Int)) := yz (aG (by omega) (by have := s[i].toNat_lt; omega))
     by_cases he : ao s i = c
     ·have hev : (wrap64 (s[i].toNat : Int) == (c : Int)) = true := by rw [yx HE, ← hbv, he]; simp
      have HM2 : Hid (m + 1 = cLt s c + cEq s c (i + 1)) := yz (by show m + 1 = cLt s c + (cEq s c i + if ao s i = c then 1 else 0); rw [if_pos he, yx HM]; omega)
      clear he hbv HM HE
      go_wp2_with fail
      go_roundw
      case rel => exact ⟨m + 1, i + 1, by go_num, by go_num, by omega, by omega, HM2, HV⟩
      case measure => simp [intOf] <;> omega
     ·have hev : (wrap64 (s[i].toNat : Int) == (c : Int)) = false := by rw [yx HE, ← hbv]; simp; omega
      have HM2 : Hid (m = cLt s c + cEq s c (i + 1)) := yz (by show m = cLt s c + (cEq s c i + if ao s i = c then 1 else 0); rw [if_neg he, yx HM]; omega)
      clear he hbv HM HE
      go_wp2_with fail
      go_roundw
      case rel => exact ⟨m, i + 1, rfl, by go_num, by omega, by omega, HM2, HV⟩
      case measure => simp [intOf] <;> omega
    ·have hinz : ¬ (i : Int) < (n : Int) := by omega
     have HL : Hid (m = cLt s (c + 1)) := yz (by rw [yx HM, show i = s.size by have := yx HN; omega]; rfl)
     have hm9 : (m : Int) ≤ 1000 := by omega
     by_cases h2 : n ≤ 2 * m
     ·have h2z : (n : Int) ≤ 2 * (m : Int) := by omega
      go_wp2_with fail
      go_ret
      exact ⟨⟨c, rfl, .inr ⟨yx HF, c, rfl, by rw [← yx HN, ← yx HL]; exact h2, fun q hq => by rw [← yx HN]; exact yx HQ q hq⟩⟩, aj (yx B1) (yx HV)⟩
     ·have h2z : ¬ (n : Int) ≤ 2 * (m : Int) := by omega
      have HQ2 : Hid (∀ q, q < c + 1 → 2 * cLt s (q + 1) < n) := yz (fun q hq => by
       rcases Nat.lt_or_ge q c with k | k
       ·exact yx HQ q k
       ·rw [show q = c by omega, ← yx HL]; omega)
      have hmn : m ≤ n := by rw [yx HL, fo, yx HN]; exact gN _ _ _
      go_wp2_with fail
      go_roundw
      case rel => exact ⟨m, c + 1, rfl, by go_num, by omega, hmn, HL, HQ2, HV⟩
      case measure => simp [intOf] <;> omega
  ·exfalso
   have e : c = 256 := by omega
   subst e
   have h1 := yx HQ 255 (by omega)
   rw [show 255 + 1 = 256 from rfl, fo, fM, ← yx HN] at h1
   omega
end
end Go.Proofs.Ytackifnnhjbgbaa
