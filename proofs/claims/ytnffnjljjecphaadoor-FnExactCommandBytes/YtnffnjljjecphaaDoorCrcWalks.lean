/- The walks for the CRC: what the specification's and the program's functions answer, both by one plain function 'crcOf'. -/
import Derived.Test.YtnffnjljjecphaaDoorRows
import Derived.Test.YtnffnjljjecphaaDoorPlain
import Derived.WalkKit
import Derived.WalkSpells
import Derived.WalkLawsBesides
namespace Go.Proofs.YtnffnjljjecphaaDoor
open Go.RowKit

set_option maxHeartbeats 400000 in
theorem crcByte_any (r b : Nat) (w : World) (hr : r < 4294967296) (hb : b < 256) :
    Calls Tryd.prog 116 #[.int .u32 (r : Int), .int .u8 (b : Int)] w fun e w' => e = .returned (.int .u32 (byteCrc r b : Nat)) ∧ w' = w := by
  have H8 := hide (implN_8 r b hb)
  go_enter Tryd.func116, Tryd.ntmps116
  go_wp2
  go_loop [0, 5] (fun t i => ∃ k : Nat, k ≤ 8 ∧ i = .int .i64 k ∧ t = .int .u32 (implN k r b : Nat)) (fun _ i => 8 - (intOf i).toNat)
  case atStart => exact ⟨0, by omega, rfl, rfl⟩
  case round =>
    obtain ⟨k, hk, rfl, rfl⟩ := hrel
    have hx := implN_lt k b hr
    by_cases hlt : k < 8
    · have ho := odd_u32 (implN k r b) b k hx hb
      by_cases hp : (implN k r b ^^^ (b / 2 ^ k)) % 2 = 1
      · have hw : (bits .and .u32 (bits .xor .u32 (implN k r b : Int) ((b : Int) / 2 ^ k % 4294967296)) 1 == 1) = true := by rw [ho, hp]; rfl
        have hxr := u32_xor_nat (implN k r b / 2) 3988292384 (by omega) (by omega)
        have HN := hide (show implN (k + 1) r b = (implN k r b / 2) ^^^ 3988292384 by rw [implN, if_pos hp])
        have HX := hide hxr
        clear hxr hp ho
        generalize implN k r b = x at *
        go_wp2
        go_round
        case rel => exact ⟨k + 1, by omega, by go_num, by rw [unhide HN, ← unhide HX]; rfl⟩
        case measure => simp [intOf]; omega
      · have hw : (bits .and .u32 (bits .xor .u32 (implN k r b : Int) ((b : Int) / 2 ^ k % 4294967296)) 1 == 1) = false := by rw [ho]; simp; omega
        have HN := hide (show implN (k + 1) r b = implN k r b / 2 by rw [implN, if_neg hp])
        clear hp ho
        generalize implN k r b = x at *
        go_wp2
        go_round
        case rel => exact ⟨k + 1, by omega, by go_num, by rw [unhide HN]; rfl⟩
        case measure => simp [intOf]; omega
    · go_wp2
      go_ret
      have e : k = 8 := by omega
      subst e
      exact ⟨by rw [← unhide H8]; rfl, rfl⟩

set_option maxHeartbeats 1000000 in
theorem l01Crc_any (c : Nat) (s : ByteArray) (w : World) (hc : c < 4294967296) (hs : s.size ≤ 8000) :
    Calls Tryd.prog 78 #[.int .i64 (c : Int), .string s] w fun e w' => e = .returned (.int .i64 (crcOf c s : Nat)) ∧ w' = w := by
  go_enter Tryd.func78, Tryd.ntmps78
  go_wp2
  go_loop [5, 6] (fun t i => ∃ k : Nat, k ≤ s.size ∧ i = .int .i64 k ∧ t = .int .u32 (crcTo s (c ^^^ 4294967295) k : Nat)) (fun _ i => s.size - (intOf i).toNat)
  case atStart => exact ⟨0, by omega, rfl, by rw [show (crcTo s (c ^^^ 4294967295) 0 : Nat) = c ^^^ 4294967295 from rfl]; exact congrArg (Value.int IntKind.u32) (u32_xor_nat c 4294967295 hc (by omega))⟩
  case round =>
    obtain ⟨k, hk, rfl, rfl⟩ := hrel
    have hx := crcTo_lt s (xor_lt32 hc (by omega) : c ^^^ 4294967295 < 4294967296) k
    by_cases hlt : k < s.size
    · have HS := hide (show crcTo s (c ^^^ 4294967295) (k + 1) = byteCrc (crcTo s (c ^^^ 4294967295) k) s[k].toNat by rw [crcTo, byteN_lt hlt])
      generalize crcTo s (c ^^^ 4294967295) k = x at *
      have hb : s[k].toNat < 256 := UInt8.toNat_lt _
      have HX := hide (u32_xor_nat x s[k].toNat hx (by omega))
      have hy : x ^^^ s[k].toNat < 4294967296 := xor_lt32 hx (by omega)
      go_wp2
      go_loop [5, 7] (fun t i => ∃ j : Nat, j ≤ 8 ∧ i = .int .i64 j ∧ t = .int .u32 (stepN j (x ^^^ s[k].toNat) : Nat)) (fun _ i => 8 - (intOf i).toNat)
      case atStart => exact ⟨0, by omega, rfl, congrArg (Value.int IntKind.u32) (unhide HX)⟩
      case round =>
        obtain ⟨j, hj, rfl, rfl⟩ := hrel
        have hz := stepN_lt j hy
        by_cases hj8 : j < 8
        · have ho := and1_u32 _ hz
          by_cases hp : stepN j (x ^^^ s[k].toNat) % 2 = 1
          · have hw : (bits .and .u32 (stepN j (x ^^^ s[k].toNat) : Nat) 1 == 1) = true := by rw [ho, hp]; rfl
            have HN := hide (show stepN (j + 1) (x ^^^ s[k].toNat) = (stepN j (x ^^^ s[k].toNat) / 2) ^^^ 3988292384 by rw [stepN, step, if_pos hp])
            have HX := hide (u32_xor_nat (stepN j (x ^^^ s[k].toNat) / 2) 3988292384 (by omega) (by omega))
            clear hp ho
            generalize stepN j (x ^^^ s[k].toNat) = y at *
            go_wp2
            go_round
            case rel => exact ⟨j + 1, by omega, by go_num, by rw [unhide HN, ← unhide HX]; rfl⟩
            case measure => simp [intOf]; omega
          · have hw : (bits .and .u32 (stepN j (x ^^^ s[k].toNat) : Nat) 1 == 1) = false := by rw [ho]; simp; omega
            have HN := hide (show stepN (j + 1) (x ^^^ s[k].toNat) = stepN j (x ^^^ s[k].toNat) / 2 by rw [stepN, step, if_neg hp])
            clear hp ho
            generalize stepN j (x ^^^ s[k].toNat) = y at *
            go_wp2
            go_round
            case rel => exact ⟨j + 1, by omega, by go_num, by rw [unhide HN]; rfl⟩
            case measure => simp [intOf]; omega
        · have e : j = 8 := by omega
          subst e
          go_wp2
          go_round
          case rel => exact ⟨k + 1, by omega, by go_num, by rw [unhide HS]; rfl⟩
          case measure => simp [intOf]; omega
    · have e : k = s.size := by omega
      subst e
      have HF := hide (show crcOf c s = crcTo s (c ^^^ 4294967295) s.size ^^^ 4294967295 from rfl)
      generalize crcTo s (c ^^^ 4294967295) s.size = x at *
      have HX := hide (xorAll x hx)
      have hf2 : x ^^^ 4294967295 < 4294967296 := xor_lt32 hx (by omega)
      go_wp2
      go_ret
      exact ⟨by rw [unhide HF]; simp [unhide HX, wrap64_u32 _ hf2], rfl⟩

set_option maxHeartbeats 1000000 in
theorem implCrcMore_any (c : Nat) (s : ByteArray) (w : World) (hc : c < 4294967296) (hs : s.size ≤ 8000) :
    Calls Tryd.prog 105 #[.int .i64 (c : Int), .string s] w fun e w' => e = .returned (.int .i64 (crcOf c s : Nat)) ∧ w' = w := by
  have d1 : decide ((8000 : Int) < (s.size : Int)) = false := by simp; omega
  have d2 : decide ((c : Int) < 0) = false := by simp
  have d3 : decide ((4294967295 : Int) < (c : Int)) = false := by simp; omega
  go_enter Tryd.func105, Tryd.ntmps105
  go_wp2
  go_loop [5, 6] (fun t i => ∃ k : Nat, k ≤ s.size ∧ i = .int .i64 k ∧ t = .int .u32 (crcTo s (c ^^^ 4294967295) k : Nat)) (fun _ i => s.size - (intOf i).toNat)
  case atStart => exact ⟨0, by omega, rfl, congrArg (Value.int IntKind.u32) (xorMax c hc)⟩
  case round =>
    obtain ⟨k, hk, rfl, rfl⟩ := hrel
    have hx := crcTo_lt s (xor_lt32 hc (by omega) : c ^^^ 4294967295 < 4294967296) k
    by_cases hlt : k < s.size
    · have HS := hide (show crcTo s (c ^^^ 4294967295) (k + 1) = byteCrc (crcTo s (c ^^^ 4294967295) k) s[k].toNat by rw [crcTo, byteN_lt hlt])
      generalize crcTo s (c ^^^ 4294967295) k = x at *
      have hb : s[k].toNat < 256 := UInt8.toNat_lt _
      go_wp2_with (go_at_call 116; refine (crcByte_any _ _ _ hx hb).mono ?_; rintro e w' ⟨rfl, rfl⟩)
      go_round
      case rel => exact ⟨k + 1, by omega, by go_num, by rw [unhide HS]⟩
      case measure => simp [intOf]; omega
    · have e : k = s.size := by omega
      subst e
      have HF := hide (show crcOf c s = crcTo s (c ^^^ 4294967295) s.size ^^^ 4294967295 from rfl)
      generalize crcTo s (c ^^^ 4294967295) s.size = x at *
      have HX := hide (xorMax x hx)
      have hf2 : x ^^^ 4294967295 < 4294967296 := xor_lt32 hx (by omega)
      go_wp2
      go_ret
      exact ⟨by rw [unhide HF]; simp [unhide HX, wrap64_u32 _ hf2], rfl⟩

theorem natOf {c : Int} (h0 : 0 ≤ c) : ∃ n : Nat, c = (n : Int) := ⟨c.toNat, by omega⟩

set_option maxHeartbeats 1000000 in
theorem implCrcMore_no (c : Int) (s : ByteArray) (w : World) (hs : s.size ≤ 1048576) (h : 8000 < s.size ∨ c < 0 ∨ 4294967295 < c) :
    Calls Tryd.prog 105 #[.int .i64 c, .string s] w fun e w' => e = .returned (.int .i64 0) ∧ w' = w := by
  by_cases h1 : 8000 < s.size
  · have d1 : decide ((8000 : Int) < (s.size : Int)) = true := by simp; omega
    go_enter Tryd.func105, Tryd.ntmps105
    go_wp2
    go_ret
    exact ⟨rfl, rfl⟩
  · have d1 : decide ((8000 : Int) < (s.size : Int)) = false := by simp; omega
    by_cases h2 : c < 0
    · have d2 : decide (c < 0) = true := by simp; omega
      go_enter Tryd.func105, Tryd.ntmps105
      go_wp2
      go_ret
      exact ⟨rfl, rfl⟩
    · have d2 : decide (c < 0) = false := by simp; omega
      have d3 : decide ((4294967295 : Int) < c) = true := by simp; omega
      go_enter Tryd.func105, Tryd.ntmps105
      go_wp2
      go_ret
      exact ⟨rfl, rfl⟩

set_option maxHeartbeats 1000000 in
theorem implCrc_any (s : ByteArray) (w : World) (hs : s.size ≤ 1048576) :
    Calls Tryd.prog 80 #[.string s] w fun e w' => e = .returned (.int .i64 (if 8000 < s.size then 0 else (crcOf 0 s : Nat))) ∧ w' = w := by
  by_cases h1 : 8000 < s.size
  · go_enter Tryd.func80, Tryd.ntmps80
    go_wp2_with (go_at_call 105; refine (implCrcMore_no 0 _ _ hs (.inl h1)).mono ?_; rintro e w' ⟨rfl, rfl⟩)
    go_ret
    simp
  · go_enter Tryd.func80, Tryd.ntmps80
    go_wp2_with (go_at_call 105; refine (implCrcMore_any 0 _ _ (by omega) (by omega)).mono ?_; rintro e w' ⟨rfl, rfl⟩)
    go_ret
    simp
end Go.Proofs.YtnffnjljjecphaaDoor
