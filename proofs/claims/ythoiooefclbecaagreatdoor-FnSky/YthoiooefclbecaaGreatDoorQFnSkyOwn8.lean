/- Several texts in one: CrcWalks. -/
import Derived.Test.YthoiooefclbecaaGreatDoorRows
import Derived.WalkKit
import Derived.WalkSpells
import Derived.WalkLawsBesides
import Derived.Test.YthoiooefclbecaaGreatDoorQFnSkyOwn1
namespace Go.Proofs.YthoiooefclbecaaGreatDoor
set_option linter.unusedVariables false
set_option linter.unusedSimpArgs false
set_option maxRecDepth 100000
set_option maxHeartbeats 8000000
section
open Go.RowKit
theorem mQ (r b : Nat) (w : World) (hr : r < 4294967296) (hb : b < 256) :
  Calls Tryz.prog 115 #[.int .u32 (r : Int), .int .u8 (b : Int)] w fun e w' => e = .returned (.int .u32 (fE r b : Nat)) ∧ w' = w := by
 have H8 := yz (st r b hb)
 go_enter Tryz.func115, Tryz.ntmps115
 go_wp2
 go_loop [0, 5] (fun t i => ∃ k : Nat, k ≤ 8 ∧ i = .int .i64 k ∧ t = .int .u32 (bW k r b : Nat)) (fun _ i => 8 - (intOf i).toNat)
 case atStart => exact ⟨0, by omega, rfl, rfl⟩
 case round =>
  obtain ⟨k, hk, rfl, rfl⟩ := hrel
  have hx := rm k b hr
  by_cases hlt : k < 8
  ·have ho := sw (bW k r b) b k hx hb
   by_cases hp : (bW k r b ^^^ (b / 2 ^ k)) % 2 = 1
   ·have hw : (bits .and .u32 (bits .xor .u32 (bW k r b : Int) ((b : Int) / 2 ^ k % 4294967296)) 1 == 1) = true := by rw [ho, hp]; rfl
    have hxr := u32_xor_nat (bW k r b / 2) 3988292384 (by omega) (by omega)
    have HN := yz (show bW (k + 1) r b = (bW k r b / 2) ^^^ 3988292384 by rw [bW, if_pos hp])
    have HX := yz hxr
    clear hxr hp ho
    generalize bW k r b = x at *
    go_wp2
    go_round
    case rel => exact ⟨k + 1, by omega, by go_num, by rw [yy HN, ← yy HX]; rfl⟩
    case measure => simp [intOf]; omega
   ·have hw : (bits .and .u32 (bits .xor .u32 (bW k r b : Int) ((b : Int) / 2 ^ k % 4294967296)) 1 == 1) = false := by rw [ho]; simp; omega
    have HN := yz (show bW (k + 1) r b = bW k r b / 2 by rw [bW, if_neg hp])
    clear hp ho
    generalize bW k r b = x at *
    go_wp2
    go_round
    case rel => exact ⟨k + 1, by omega, by go_num, by rw [yy HN]; rfl⟩
    case measure => simp [intOf]; omega
  ·go_wp2
   go_ret
   have e : k = 8 := by omega
   subst e
   exact ⟨by rw [← yy H8]; rfl, rfl⟩
theorem gu (c : Nat) (s : ByteArray) (w : World) (hc : c < 4294967296) (hs : s.size ≤ 8000) :
  Calls Tryz.prog 83 #[.int .i64 (c : Int), .string s] w fun e w' => e = .returned (.int .i64 (dQ c s : Nat)) ∧ w' = w := by
 go_enter Tryz.func83, Tryz.ntmps83
 go_wp2
 go_loop [5, 6] (fun t i => ∃ k : Nat, k ≤ s.size ∧ i = .int .i64 k ∧ t = .int .u32 (dy s (c ^^^ 4294967295) k : Nat)) (fun _ i => s.size - (intOf i).toNat)
 case atStart => exact ⟨0, by omega, rfl, by rw [show (dy s (c ^^^ 4294967295) 0 : Nat) = c ^^^ 4294967295 from rfl]; exact congrArg (Value.int IntKind.u32) (u32_xor_nat c 4294967295 hc (by omega))⟩
 case round =>
  obtain ⟨k, hk, rfl, rfl⟩ := hrel
  have hx := jU s (cq hc (by omega) : c ^^^ 4294967295 < 4294967296) k
  by_cases hlt : k < s.size
  ·have HS := yz (show dy s (c ^^^ 4294967295) (k + 1) = fE (dy s (c ^^^ 4294967295) k) s[k].toNat by rw [dy, bY hlt])
   generalize dy s (c ^^^ 4294967295) k = x at *
   have hb : s[k].toNat < 256 := UInt8.toNat_lt _
   have HX := yz (u32_xor_nat x s[k].toNat hx (by omega))
   have hy : x ^^^ s[k].toNat < 4294967296 := cq hx (by omega)
   go_wp2
   go_loop [5, 7] (fun t i => ∃ j : Nat, j ≤ 8 ∧ i = .int .i64 j ∧ t = .int .u32 (dv j (x ^^^ s[k].toNat) : Nat)) (fun _ i => 8 - (intOf i).toNat)
   case atStart => exact ⟨0, by omega, rfl, congrArg (Value.int IntKind.u32) (yy HX)⟩
   case round =>
    obtain ⟨j, hj, rfl, rfl⟩ := hrel
    have hz := od j hy
    by_cases hj8 : j < 8
    ·have ho := mK _ hz
     by_cases hp : dv j (x ^^^ s[k].toNat) % 2 = 1
     ·have hw : (bits .and .u32 (dv j (x ^^^ s[k].toNat) : Nat) 1 == 1) = true := by rw [ho, hp]; rfl
      have HN := yz (show dv (j + 1) (x ^^^ s[k].toNat) = (dv j (x ^^^ s[k].toNat) / 2) ^^^ 3988292384 by rw [dv, step, if_pos hp])
      have HX := yz (u32_xor_nat (dv j (x ^^^ s[k].toNat) / 2) 3988292384 (by omega) (by omega))
      clear hp ho
      generalize dv j (x ^^^ s[k].toNat) = y at *
      go_wp2
      go_round
      case rel => exact ⟨j + 1, by omega, by go_num, by rw [yy HN, ← yy HX]; rfl⟩
      case measure => simp [intOf]; omega
     ·have hw : (bits .and .u32 (dv j (x ^^^ s[k].toNat) : Nat) 1 == 1) = false := by rw [ho]; simp; omega
      have HN := yz (show dv (j + 1) (x ^^^ s[k].toNat) = dv j (x ^^^ s[k].toNat) / 2 by rw [dv, step, if_neg hp])
      clear hp ho
      generalize dv j (x ^^^ s[k].toNat) = y at *
      go_wp2
      go_round
      case rel => exact ⟨j + 1, by omega, by go_num, by rw [yy HN]; rfl⟩
      case measure => simp [intOf]; omega
    ·have e : j = 8 := by omega
     subst e
     go_wp2
     go_round
     case rel => exact ⟨k + 1, by omega, by go_num, by rw [yy HS]; rfl⟩
     case measure => simp [intOf]; omega
  ·have e : k = s.size := by omega
   subst e
   have HF := yz (show dQ c s = dy s (c ^^^ 4294967295) s.size ^^^ 4294967295 from rfl)
   generalize dy s (c ^^^ 4294967295) s.size = x at *
   have HX := yz (tp x hx)
   have hf2 : x ^^^ 4294967295 < 4294967296 := cq hx (by omega)
   go_wp2
   go_ret
   exact ⟨by rw [yy HF]; simp [yy HX, kO _ hf2], rfl⟩
theorem jp (c : Nat) (s : ByteArray) (w : World) (hc : c < 4294967296) (hs : s.size ≤ 8000) :
  Calls Tryz.prog 107 #[.int .i64 (c : Int), .string s] w fun e w' => e = .returned (.int .i64 (dQ c s : Nat)) ∧ w' = w := by
 have d1 : decide ((8000 : Int) < (s.size : Int)) = false := by simp; omega
 have d2 : decide ((c : Int) < 0) = false := by simp
 have d3 : decide ((4294967295 : Int) < (c : Int)) = false := by simp; omega
 go_enter Tryz.func107, Tryz.ntmps107
 go_wp2
 go_loop [5, 6] (fun t i => ∃ k : Nat, k ≤ s.size ∧ i = .int .i64 k ∧ t = .int .u32 (dy s (c ^^^ 4294967295) k : Nat)) (fun _ i => s.size - (intOf i).toNat)
 case atStart => exact ⟨0, by omega, rfl, congrArg (Value.int IntKind.u32) (sd c hc)⟩
 case round =>
  obtain ⟨k, hk, rfl, rfl⟩ := hrel
  have hx := jU s (cq hc (by omega) : c ^^^ 4294967295 < 4294967296) k
  by_cases hlt : k < s.size
  ·have HS := yz (show dy s (c ^^^ 4294967295) (k + 1) = fE (dy s (c ^^^ 4294967295) k) s[k].toNat by rw [dy, bY hlt])
   generalize dy s (c ^^^ 4294967295) k = x at *
   have hb : s[k].toNat < 256 := UInt8.toNat_lt _
   go_wp2_with (go_at_call 115; refine (mQ _ _ _ hx hb).mono ?_; rintro e w' ⟨rfl, rfl⟩)
   go_round
   case rel => exact ⟨k + 1, by omega, by go_num, by rw [yy HS]⟩
   case measure => simp [intOf]; omega
  ·have e : k = s.size := by omega
   subst e
   have HF := yz (show dQ c s = dy s (c ^^^ 4294967295) s.size ^^^ 4294967295 from rfl)
   generalize dy s (c ^^^ 4294967295) s.size = x at *
   have HX := yz (sd x hx)
   have hf2 : x ^^^ 4294967295 < 4294967296 := cq hx (by omega)
   go_wp2
   go_ret
   exact ⟨by rw [yy HF]; simp [yy HX, kO _ hf2], rfl⟩
theorem kf (c : Int) (s : ByteArray) (w : World) (hs : s.size ≤ 1048576) (h : 8000 < s.size ∨ c < 0 ∨ 4294967295 < c) :
  Calls Tryz.prog 107 #[.int .i64 c, .string s] w fun e w' => e = .returned (.int .i64 0) ∧ w' = w := by
 by_cases h1 : 8000 < s.size
 ·have d1 : decide ((8000 : Int) < (s.size : Int)) = true := by simp; omega
  go_enter Tryz.func107, Tryz.ntmps107
  go_wp2
  go_ret
  exact ⟨rfl, rfl⟩
 ·have d1 : decide ((8000 : Int) < (s.size : Int)) = false := by simp; omega
  by_cases h2 : c < 0
  ·have d2 : decide (c < 0) = true := by simp; omega
   go_enter Tryz.func107, Tryz.ntmps107
   go_wp2
   go_ret
   exact ⟨rfl, rfl⟩
  ·have d2 : decide (c < 0) = false := by simp; omega
   have d3 : decide ((4294967295 : Int) < c) = true := by simp; omega
   go_enter Tryz.func107, Tryz.ntmps107
   go_wp2
   go_ret
   exact ⟨rfl, rfl⟩
theorem ni (s : ByteArray) (w : World) (hs : s.size ≤ 1048576) :
  Calls Tryz.prog 81 #[.string s] w fun e w' => e = .returned (.int .i64 (if 8000 < s.size then 0 else (dQ 0 s : Nat))) ∧ w' = w := by
 by_cases h1 : 8000 < s.size
 ·go_enter Tryz.func81, Tryz.ntmps81
  go_wp2_with (go_at_call 107; refine (kf 0 _ _ hs (.inl h1)).mono ?_; rintro e w' ⟨rfl, rfl⟩)
  go_ret
  simp
 ·go_enter Tryz.func81, Tryz.ntmps81
  go_wp2_with (go_at_call 107; refine (jp 0 _ _ (by omega) (by omega)).mono ?_; rintro e w' ⟨rfl, rfl⟩)
  go_ret
  simp
end
end Go.Proofs.YthoiooefclbecaaGreatDoor
