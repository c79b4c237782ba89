/- Numbers in digits, of any length: what markText makes. -/
import Derived.Test.YtofpjlhoppofdaaGreatDoorBytes
import Derived.Test.YtofpjlhoppofdaaGreatDoorVecA
import Derived.Lib.ItoaMem
import Derived.Lib.ItoaNum
namespace Go.Proofs.YtofpjlhoppofdaaGreatDoor
open Go.RowKit Go.Sort
set_option linter.unusedVariables false

/-- the digits of a number, none of 0 -/
def dG (k : Nat) : ByteArray := if k = 0 then ⟨#[]⟩ else ⟨(Lib.decDigits k).toArray⟩
def dgB (d : Nat) : UInt8 := UInt8.ofNat (48 + d)
theorem cat_l (k l : List UInt8) : ((⟨k.toArray⟩ : ByteArray) ++ ⟨l.toArray⟩) = ⟨(k ++ l).toArray⟩ := by
  apply ByteArray.ext
  simp
theorem dG_step {k : Nat} (hk : k ≠ 0) : dG k = dG (k / 10) ++ ⟨#[dgB (k % 10)]⟩ := by
  unfold dG dgB
  rw [if_neg hk]
  by_cases h : k < 10
  · rw [if_pos (by omega), Lib.decDigits_one h, Nat.mod_eq_of_lt h]
    exact (cat_l [] _).symm
  · rw [if_neg (by omega), Lib.decDigits, dif_neg h]
    exact (cat_l _ [_]).symm
theorem dG_zero : dG 0 = ⟨#[]⟩ := rfl
theorem ba_one (x : UInt8) : (⟨#[x]⟩ : ByteArray).size = 1 := rfl
theorem ba_none : (⟨#[]⟩ : ByteArray).size = 0 := rfl
theorem ba_nil (t : ByteArray) : (⟨#[]⟩ : ByteArray) ++ t = t := by
  apply ByteArray.ext
  simp
theorem ba_nilr (t : ByteArray) : t ++ (⟨#[]⟩ : ByteArray) = t := by
  apply ByteArray.ext
  simp
theorem dg_num {d : Nat} (h : d < 10) : ((dgB d).toNat : Int) = 48 + (d : Int) := by
  unfold dgB
  rw [UInt8.toNat_ofNat']
  omega
theorem mt_rem (k : Nat) : (k : Int).tmod 10 = ((k % 10 : Nat) : Int) := by
  rw [Int.tmod_eq_emod_of_nonneg (by omega)]
  omega
theorem mt_quo (k : Nat) : (k : Int).tdiv 10 = ((k / 10 : Nat) : Int) := by
  rw [Int.tdiv_eq_ediv_of_nonneg (by omega)]
  omega
theorem conv1d (w : World) (k : UInt8) : (convert 55 9 (.slice (some ⟨w.heap.size, 0, none⟩) 1 1)).run Tryz.prog (w.alloc (.cells #[.int .u8 (k.toNat : Int)] 5)) = .ok (.string ⟨#[k]⟩) (w.alloc (.cells #[.int .u8 (k.toNat : Int)] 5)) :=
  convBytes w 5 #[.int .u8 (k.toNat : Int)] ⟨#[k]⟩ (by simp [Lib.byteCells]) 1

set_option maxHeartbeats 1000000 in
set_option maxRecDepth 100000 in
theorem markText_any (n : Nat) (w : World) (hn : n ≤ 1000000000) (h1 : 1 ≤ n) :
    Calls Tryz.prog 16 #[.int .i64 n] w fun e w' => e = .returned (.string (⟨#[109]⟩ ++ dG n)) ∧ Below w.heap.size w w' := by
  have h0 : ¬ (n : Int) ≤ 0 := by omega
  go_enter Tryz.func16, Tryz.ntmps16
  go_wp2_with fail
  go_loopw [0, 3] (fun u s wr => ∃ (k : Nat) (t : ByteArray), u = .int .i64 k ∧ s = .string t ∧ k ≤ n ∧ t.size + k ≤ n ∧ Hid (dG k ++ t = dG n) ∧ Hid (Below w.heap.size w wr)) (fun u _ _ => (intOf u).toNat)
  case atStart => exact ⟨n, ⟨#[]⟩, rfl, rfl, Nat.le_refl _, by rw [ba_none]; omega, hide (ba_nilr _), hide (Below.refl _ _)⟩
  case round =>
    obtain ⟨k, t, rfl, rfl, hk, ht, HD, HB⟩ := hrel
    by_cases hz : k = 0
    · subst hz
      have hc : ¬ (⟨#[109]⟩ : ByteArray).size + t.size > 9223372036854775807 := by rw [ba_one]; omega
      go_wp2
      go_ret
      exact ⟨by rw [← unhide HD, dG_zero, ba_nil]; rfl, unhide HB⟩
    · have hk0 : (0 : Int) < (k : Int) := by omega
      obtain ⟨d, hd⟩ : ∃ d, k % 10 = d := ⟨_, rfl⟩
      obtain ⟨q, hq⟩ : ∃ q, k / 10 = q := ⟨_, rfl⟩
      have hd10 : d < 10 := by omega
      have er := mt_rem k
      have eq := mt_quo k
      rw [hd] at er
      rw [hq] at eq
      have hcv := conv1d wr (dgB d)
      rw [dg_num hd10] at hcv
      have hc : ¬ (⟨#[dgB d]⟩ : ByteArray).size + t.size > 9223372036854775807 := by rw [ba_one]; omega
      go_wp2
      go_roundw
      case rel => exact ⟨q, ⟨#[dgB d]⟩ ++ t, rfl, rfl, by omega, by rw [ByteArray.size_append, ba_one]; omega, hide (by rw [← unhide HD, dG_step hz, hd, hq, ByteArray.append_assoc]), hide (below_call (unhide HB) (below1 _ _))⟩
      case measure => simp [intOf]; omega
end Go.Proofs.YtofpjlhoppofdaaGreatDoor
