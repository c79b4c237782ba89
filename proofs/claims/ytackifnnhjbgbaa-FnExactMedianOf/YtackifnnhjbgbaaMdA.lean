/- The byte in the midst of all: the specification's and the program's. -/
import Derived.Test.YtackifnnhjbgbaaStJ
import Derived.Test.YtackifnnhjbgbaaFrD
namespace Go.Proofs.Ytackifnnhjbgbaa
open Go.RowKit
set_option linter.unusedVariables false
set_option linter.unusedSimpArgs false

/-- how many of the first i bytes are c; how many of all are below c -/
def cEq (s : ByteArray) (c : Nat) : Nat → Nat
  | 0 => 0
  | i + 1 => cEq s c i + if byteN s i = c then 1 else 0
def cLt (s : ByteArray) : Nat → Nat
  | 0 => 0
  | c + 1 => cLt s c + cEq s c s.size
theorem cEq_le (s : ByteArray) (c : Nat) : ∀ i, cEq s c i ≤ i
  | 0 => Nat.le_refl _
  | i + 1 => by unfold cEq; have := cEq_le s c i; split <;> omega
def IsMed (s : ByteArray) (v : Nat) : Prop := s.size ≤ 2 * cLt s (v + 1) ∧ ∀ c, c < v → 2 * cLt s (c + 1) < s.size
theorem isMed_one {s : ByteArray} {u v : Nat} (h : IsMed s u) (g : IsMed s v) : u = v := by
  rcases Nat.lt_trichotomy u v with c | c | c
  · have := g.2 u c; have := h.1; omega
  · exact c
  · have := h.2 v c; have := g.1; omega
def cLtI (s : ByteArray) (c : Nat) : Nat → Nat
  | 0 => 0
  | i + 1 => cLtI s c i + if byteN s i < c then 1 else 0
theorem cLtI_succ (s : ByteArray) (c : Nat) : ∀ i, cLtI s (c + 1) i = cLtI s c i + cEq s c i
  | 0 => rfl
  | i + 1 => by
    unfold cLtI cEq
    rw [cLtI_succ s c i]
    split <;> split <;> split <;> omega
theorem cLt_eq (s : ByteArray) : ∀ c, cLt s c = cLtI s c s.size
  | 0 => by
    have h : ∀ i, cLtI s 0 i = 0 := fun i => by
      induction i with
      | zero => rfl
      | succ i ih => unfold cLtI; rw [ih, if_neg (by omega)]
    rw [h]; rfl
  | c + 1 => by rw [cLt, cLt_eq s c, cLtI_succ]
theorem cLtI_le (s : ByteArray) (c : Nat) : ∀ i, cLtI s c i ≤ i
  | 0 => Nat.le_refl _
  | i + 1 => by unfold cLtI; have := cLtI_le s c i; split <;> omega
theorem byteN_256' (s : ByteArray) (i : Nat) : byteN s i < 256 := by
  unfold byteN
  split
  · exact UInt8.toNat_lt _
  · omega
theorem cLtI_all (s : ByteArray) : ∀ i, cLtI s 256 i = i
  | 0 => rfl
  | i + 1 => by unfold cLtI; rw [cLtI_all s i, if_pos (byteN_256' s i)]
def MedR (wd ht : Int) (s : ByteArray) (v : Int) : Prop := (frameB wd ht s = false ∧ v = 0) ∨ (frameB wd ht s = true ∧ ∃ k : Nat, v = (k : Int) ∧ IsMed s k)
theorem medR_one {wd ht : Int} {s : ByteArray} {u v : Int} (h : MedR wd ht s u) (g : MedR wd ht s v) : u = v := by
  rcases h with ⟨h1, rfl⟩ | ⟨h1, k, rfl, hk⟩ <;> rcases g with ⟨g1, rfl⟩ | ⟨g1, m, rfl, hm⟩
  · rfl
  · rw [h1] at g1; cases g1
  · rw [h1] at g1; cases g1
  · rw [isMed_one hk hm]
theorem frame_small {wd ht : Int} {n : Nat} (h1 : 1 ≤ wd) (h2 : wd ≤ 16) (h3 : 1 ≤ ht) (h4 : ht ≤ 12) (h : (n : Int) = wd * ht) : n ≤ 192 := by
  have h5 : wd * ht ≤ 16 * 12 := Int.le_trans (Int.mul_le_mul_of_nonneg_right h2 (by omega)) (Int.mul_le_mul_of_nonneg_left h4 (by omega))
  omega
theorem frame_some {wd ht : Int} {n : Nat} (h1 : 1 ≤ wd) (h3 : 1 ≤ ht) (h : (n : Int) = wd * ht) : 1 ≤ n := by
  have h5 : 0 < wd * ht := Int.mul_pos (by omega) (by omega)
  omega
set_option maxHeartbeats 1600000 in
set_option maxRecDepth 100000 in
theorem specMedian_any (wd ht : Int) (s : ByteArray) (w : World) (hs : s.size ≤ maxLen) :
    Calls Try.prog 6 #[.agg #[.int .i64 wd, .int .i64 ht, .string s]] w fun e w' => (∃ v, e = .returned (.int .i64 v) ∧ MedR wd ht s v) ∧ Below w.heap.size w w' := by
  have A0 := hide (blk_new w [.int .i64 wd, .int .i64 ht, .string s] 26)
  have B0 := hide (below1 w (.cells #[.int .i64 wd, .int .i64 ht, .string s] 26))
  go_enter Try.func6, Try.ntmps6
  go_wp2_with fail
  generalize w.alloc (.cells #[.int .i64 wd, .int .i64 ht, .string s] 26) = W0 at *
  refine (specFrameRight_any wd ht s _).mono ?_
  rintro e W1 ⟨rfl, hx⟩
  have A1 := hide ((unhide A0).kept hx)
  have B1 := hide (below_call (unhide B0) hx)
  clear hx A0 B0
  cases hf : frameB wd ht s
  · go_wp2_with fail
    go_ret
    exact ⟨⟨0, rfl, .inl ⟨hf, rfl⟩⟩, unhide B1⟩
  obtain ⟨f1, f2, f3, f4, f5⟩ := frameB_iff.1 hf
  have hn9 : s.size ≤ 192 := frame_small f1 f2 f3 f4 f5
  have hn1 : 1 ≤ s.size := frame_some f1 f3 f5
  have HF := hide hf
  clear hf f1 f2 f3 f4 f5 hs
  obtain ⟨n, hn⟩ : ∃ n, n = s.size := ⟨_, rfl⟩
  have hnz : (s.size : Int) = (n : Int) := by rw [hn]
  rw [← hn] at hn9 hn1
  have HN := hide hn
  clear hn
  go_wp2_with fail
  go_loopw [3, 4] (fun u v wr => ∃ (b c : Nat), u = .int .i64 b ∧ v = .int .i64 c ∧ c ≤ 256 ∧ b ≤ n ∧ Hid (b = cLt s c) ∧ Hid (∀ q, q < c → 2 * cLt s (q + 1) < n) ∧ Hid (Below W1.heap.size W1 wr)) (fun _ v _ => 256 - (intOf v).toNat)
  case atStart => exact ⟨0, 0, rfl, rfl, by omega, by omega, hide rfl, hide (fun q hq => absurd hq (Nat.not_lt_zero _)), hide (Below.refl _ _)⟩
  case round =>
    obtain ⟨b, c, rfl, rfl, hc, hbn, HB, HQ, HW⟩ := hrel
    by_cases hc2 : c < 256
    · have hcz : (c : Int) < 256 := by omega
      go_wp2_with fail
      go_loopw [3, 5] (fun u v ws => ∃ (m i : Nat), u = .int .i64 m ∧ v = .int .i64 i ∧ i ≤ n ∧ m ≤ b + i ∧ Hid (m = cLt s c + cEq s c i) ∧ Hid (Below W1.heap.size W1 ws)) (fun _ v _ => n - (intOf v).toNat)
      case atStart => exact ⟨b, 0, rfl, rfl, by omega, by omega, hide (by rw [unhide HB]; rfl), HW⟩
      case round =>
        obtain ⟨m, i, rfl, rfl, hi, hm, HM, HV⟩ := hrel
        clear HW
        have c2 := ((unhide A1).kept (unhide HV)).cell 2 _ rfl
        by_cases hin : i < n
        · have hinz : (i : Int) < (n : Int) := by omega
          have his : i < s.size := by rw [← unhide HN]; exact hin
          have hbv := byteN_lt his
          have hm9 : (m : Int) ≤ 1000 := by omega
          have HE : Hid (wrap64 (s[i].toNat : Int) = (s[i].toNat : Int)) := hide (wrap_id (by omega) (by have := s[i].toNat_lt; omega))
          by_cases he : byteN s i = c
          · have hev : (wrap64 (s[i].toNat : Int) == (c : Int)) = true := by rw [unhide HE, ← hbv, he]; simp
            have HM2 : Hid (m + 1 = cLt s c + cEq s c (i + 1)) := hide (by show m + 1 = cLt s c + (cEq s c i + if byteN s i = c then 1 else 0); rw [if_pos he, unhide HM]; omega)
            clear he hbv HM HE
            go_wp2_with fail
            go_roundw
            case rel => exact ⟨m + 1, i + 1, by go_num, by go_num, by omega, by omega, HM2, HV⟩
            case measure => simp [intOf] <;> omega
          · have hev : (wrap64 (s[i].toNat : Int) == (c : Int)) = false := by rw [unhide HE, ← hbv]; simp; omega
            have HM2 : Hid (m = cLt s c + cEq s c (i + 1)) := hide (by show m = cLt s c + (cEq s c i + if byteN s i = c then 1 else 0); rw [if_neg he, unhide HM]; omega)
            clear he hbv HM HE
            go_wp2_with fail
            go_roundw
            case rel => exact ⟨m, i + 1, rfl, by go_num, by omega, by omega, HM2, HV⟩
            case measure => simp [intOf] <;> omega
        · have hinz : ¬ (i : Int) < (n : Int) := by omega
          have HL : Hid (m = cLt s (c + 1)) := hide (by rw [unhide HM, show i = s.size by have := unhide HN; omega]; rfl)
          have hm9 : (m : Int) ≤ 1000 := by omega
          by_cases h2 : n ≤ 2 * m
          · have h2z : (n : Int) ≤ 2 * (m : Int) := by omega
            go_wp2_with fail
            go_ret
            exact ⟨⟨c, rfl, .inr ⟨unhide HF, c, rfl, by rw [← unhide HN, ← unhide HL]; exact h2, fun q hq => by rw [← unhide HN]; exact unhide HQ q hq⟩⟩, below_call (unhide B1) (unhide HV)⟩
          · have h2z : ¬ (n : Int) ≤ 2 * (m : Int) := by omega
            have HQ2 : Hid (∀ q, q < c + 1 → 2 * cLt s (q + 1) < n) := hide (fun q hq => by
              rcases Nat.lt_or_ge q c with k | k
              · exact unhide HQ q k
              · rw [show q = c by omega, ← unhide HL]; omega)
            have hmn : m ≤ n := by rw [unhide HL, cLt_eq, unhide HN]; exact cLtI_le _ _ _
            go_wp2_with fail
            go_roundw
            case rel => exact ⟨m, c + 1, rfl, by go_num, by omega, hmn, HL, HQ2, HV⟩
            case measure => simp [intOf] <;> omega
    · exfalso
      have e : c = 256 := by omega
      subst e
      have h1 := unhide HQ 255 (by omega)
      rw [show 255 + 1 = 256 from rfl, cLt_eq, cLtI_all, ← unhide HN] at h1
      omega
end Go.Proofs.Ytackifnnhjbgbaa
