/- Several texts in one: GetNum. -/
import Derived.Test.YthoiooefclbecaaGreatDoorQFnSkyOwn12
import Derived.Test.YthoiooefclbecaaGreatDoorQFnSkyOwn15
namespace Go.Proofs.YthoiooefclbecaaGreatDoor
set_option linter.unusedVariables false
set_option linter.unusedSimpArgs false
set_option maxRecDepth 100000
set_option maxHeartbeats 8000000
section
open Go.RowKit
def hQ (s : ByteArray) (p : Int) : Except Int (Nat × Nat) := if p < 0 then .error 1 else bi s p.toNat 10 0 0
def pJ : Except Int (Nat × Nat) → Value
 | .error c => .agg #[.int .i64 0, .int .i64 0, .int .i64 c]
 | .ok x => .agg #[.int .i64 (unf x.1), .int .i64 (x.2 : Int), .int .i64 0]
def ix (s : ByteArray) (p : Int) : Value := if 8000 < s.size then .agg #[.int .i64 0, .int .i64 0, .int .i64 2] else pJ (hQ s p)
theorem sD (u c i : Nat) (hi : i ≤ 9) (hu : u < 2 ^ (7 * i)) (h9 : i = 9 → c ≤ 1) :
  IntKind.u64.wrap ((u : Int) + IntKind.u64.wrap ((c : Int) % 128 * 2 ^ (7 * i))) = ((u + c % 128 * 2 ^ (7 * i) : Nat) : Int) := by
 have hb := eQ u c i hi hu h9
 have hp : (c : Int) % 128 * 2 ^ (7 * i) = ((c % 128 * 2 ^ (7 * i) : Nat) : Int) := by push_cast; rfl
 rw [hp, ig, ig]
 generalize c % 128 * 2 ^ (7 * i) = x at *
 omega
theorem jt (s : ByteArray) (p : Nat) (w : World) (hs : s.size ≤ 8000) (h1 : (p : Int) ≤ 9223372036854775807) :
  Calls Tryz.prog 99 #[.string s, .int .i64 (p : Int)] w fun e w' => e = .returned (pJ (bi s p 10 0 0)) ∧ Below w.heap.size w w' := by
 go_enter Tryz.func99, Tryz.ntmps99
 go_wp2
 go_loop [5, 6] (fun t i => ∃ k u : Nat, k ≤ 9 ∧ i = .int .i64 k ∧ t = .int .u64 u ∧ u < 2 ^ (7 * k) ∧ bi s p 10 0 0 = bi s p (9 - k + 1) k u) (fun _ i => 10 - (intOf i).toNat)
 case atStart => exact ⟨0, 0, by omega, rfl, rfl, by simp, rfl⟩
 case round =>
  obtain ⟨k, u, hk, rfl, rfl, hu, he⟩ := hrel
  by_cases hlt : p + k < s.size
  ·have hb : s[p + k].toNat < 256 := UInt8.toNat_lt _
   have hul : (u : Int) ≤ 9223372036854775807 := by have := sS hk; omega
   by_cases hw : k = 9 ∧ 1 < s[p + k].toNat
   ·have HN := yz (he.trans (kw (s := s) (p := p) (k := 9 - k) (i := k) (u := u) hlt hw.1 hw.2))
    have hkb : ((k : Int) == 9) = true := by simp; omega
    have hc1 : (1 : Int) < (s[p + k].toNat : Int) := by omega
    clear he hu hw
    go_wp2
    exact bodyPost_ret (v := .agg #[.int .i64 0, .int .i64 0, .int .i64 3]) (by simp [results, Tryz.results99, go_sem]) rfl ⟨by rw [yy HN]; rfl, (Below.refl _ _).alloc (Nat.le_refl _) _⟩
   ·have hO := sD u s[p + k].toNat k hk hu (by omega)
    have HB := eQ u s[p + k].toNat k hk hu (by omega)
    have HP := yz (fA u s[p + k].toNat k hu)
    by_cases hc : s[p + k].toNat < 128
    ·have HN := yz (he.trans (fO (s := s) (p := p) (k := 9 - k) (i := k) (u := u) hlt (by omega) hc))
     clear he hu HP
     generalize u + s[p + k].toNat % 128 * 2 ^ (7 * k) = U at *
     have hc' : (s[p + k].toNat : Int) < 128 := by omega
     have hUb : (U : Int) ≤ 18446744073709551615 := by omega
     by_cases hz : s[p + k].toNat = 0 ∧ 0 < k
     ·have HN2 := yz (show bi s p 10 0 0 = .error 3 by rw [yy HN, if_pos hz])
      have hz1 : ((s[p + k].toNat : Int) == 0) = true := by simp; omega
      have hz2 : (0 : Int) < (k : Int) := by omega
      have hkb : ((k : Int) == 9) = true ∨ ((k : Int) == 9) = false := by cases h : ((k : Int) == 9) <;> simp
      have hc1 : decide ((1 : Int) < (s[p + k].toNat : Int)) = false := by simp; omega
      clear hw hz HB HN
      rcases hkb with hkb | hkb
      all_goals
       go_wp2
       exact bodyPost_ret (v := .agg #[.int .i64 0, .int .i64 0, .int .i64 3]) (by simp [results, Tryz.results99, go_sem]) rfl ⟨by rw [yy HN2]; rfl, (Below.refl _ _).alloc (Nat.le_refl _) _⟩
     ·have HN2 := yz (show bi s p 10 0 0 = .ok (U, p + k + 1) by rw [yy HN, if_neg hz])
      have hz1 : (((s[p + k].toNat : Int) == 0) = true ∧ k ≤ 0 ∧ ((k : Int) == 9) = false) ∨ (((s[p + k].toNat : Int) == 0) = false ∧ ((k : Int) == 9) = true ∧ (s[p + k].toNat : Int) ≤ 1) ∨ (((s[p + k].toNat : Int) == 0) = false ∧ ((k : Int) == 9) = false) := by
       by_cases h : s[p + k].toNat = 0
       ·exact .inl ⟨by simp; omega, by omega, by simp; omega⟩
       ·by_cases h9 : k = 9
        ·exact .inr (.inl ⟨by simp; omega, by simp; omega, by omega⟩)
        ·exact .inr (.inr ⟨by simp; omega, by simp; omega⟩)
      clear hw hz HB HN
      by_cases hpar : U % 2 = 1
      ·have hp1 : ((U : Int) % 2 == 1) = true := by simp; omega
       have HF := yz (show unf U = -((U : Int) / 2) - 1 by unfold unf; rw [if_pos hpar]; omega)
       clear hpar
       rcases hz1 with ⟨hz1, hz2, hkb⟩ | ⟨hz1, hkb, hz2⟩ | ⟨hz1, hkb⟩
       all_goals
        go_wp2
        exact bodyPost_ret (v := .agg #[.int .i64 (-((U : Int) / 2) - 1), .int .i64 ((p : Int) + k + 1), .int .i64 0]) (by simp [results, Tryz.results99, go_sem]) rfl ⟨by rw [yy HN2, ← yy HF]; simp [pJ], (Below.refl _ _).alloc (Nat.le_refl _) _⟩
      ·have hp1 : ((U : Int) % 2 == 1) = false := by simp; omega
       have HF := yz (show unf U = (U : Int) / 2 by unfold unf; rw [if_neg hpar]; omega)
       clear hpar
       rcases hz1 with ⟨hz1, hz2, hkb⟩ | ⟨hz1, hkb, hz2⟩ | ⟨hz1, hkb⟩
       all_goals
        go_wp2
        exact bodyPost_ret (v := .agg #[.int .i64 ((U : Int) / 2), .int .i64 ((p : Int) + k + 1), .int .i64 0]) (by simp [results, Tryz.results99, go_sem]) rfl ⟨by rw [yy HN2, ← yy HF]; simp [pJ], (Below.refl _ _).alloc (Nat.le_refl _) _⟩
    ·have hk9 : k < 9 := by omega
     have HN := yz (he.trans (iJ (s := s) (p := p) (k := 9 - k) (i := k) (u := u) hlt hk9 hc))
     have HM := yz (show bi s p 10 0 0 = bi s p (9 - (k + 1) + 1) (k + 1) (u + s[p + k].toNat % 128 * 2 ^ (7 * k)) by rw [show 9 - (k + 1) + 1 = 9 - k by omega]; exact yy HN)
     have hkb : ((k : Int) == 9) = false := by simp; omega
     have hc' : (128 : Int) ≤ (s[p + k].toNat : Int) := by omega
     have hUb : ((u + s[p + k].toNat % 128 * 2 ^ (7 * k) : Nat) : Int) ≤ 18446744073709551615 := by omega
     clear he hu HB hw HN
     generalize u + s[p + k].toNat % 128 * 2 ^ (7 * k) = U at *
     go_wp2
     go_round
     case rel => exact ⟨k + 1, U, by omega, by go_num, rfl, yy HP, yy HM⟩
     case measure => simp [intOf]; omega
  ·have HN := yz (he.trans (gx (s := s) (p := p) (k := 9 - k) (i := k) (u := u) (by omega)))
   clear he hu
   go_wp2
   exact bodyPost_ret (v := .agg #[.int .i64 0, .int .i64 0, .int .i64 4]) (by simp [results, Tryz.results99, go_sem]) rfl ⟨by rw [yy HN]; rfl, (Below.refl _ _).alloc (Nat.le_refl _) _⟩
theorem kC (s : ByteArray) (p : Int) (w : World) (hs : s.size ≤ 1048576) (h1 : p ≤ 9223372036854775807) :
  Calls Tryz.prog 99 #[.string s, .int .i64 p] w fun e w' => e = .returned (ix s p) ∧ Below w.heap.size w w' := by
 by_cases h8 : 8000 < s.size
 ·rw [ix, if_pos h8]
  go_enter Tryz.func99, Tryz.ntmps99
  go_wp2
  exact bodyPost_ret (v := .agg #[.int .i64 0, .int .i64 0, .int .i64 2]) (by simp [results, Tryz.results99, go_sem]) rfl ⟨rfl, (Below.refl _ _).alloc (Nat.le_refl _) _⟩
 ·by_cases h : p < 0
  ·rw [ix, if_neg h8, hQ, if_pos h]
   go_enter Tryz.func99, Tryz.ntmps99
   go_wp2
   exact bodyPost_ret (v := .agg #[.int .i64 0, .int .i64 0, .int .i64 1]) (by simp [results, Tryz.results99, go_sem]) rfl ⟨rfl, (Below.refl _ _).alloc (Nat.le_refl _) _⟩
  ·obtain ⟨n, rfl⟩ : ∃ n : Nat, p = (n : Int) := ⟨p.toNat, by omega⟩
   rw [ix, if_neg h8, hQ, if_neg h, Int.toNat_natCast]
   exact jt s n w (by omega) h1
end
end Go.Proofs.YthoiooefclbecaaGreatDoor
