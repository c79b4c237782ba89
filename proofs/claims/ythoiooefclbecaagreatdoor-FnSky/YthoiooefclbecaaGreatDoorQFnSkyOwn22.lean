/- Several texts in one: LwT. -/
import Derived.Test.YthoiooefclbecaaGreatDoorQFnSkyOwn19
namespace Go.Proofs.YthoiooefclbecaaGreatDoor
set_option linter.unusedVariables false
set_option linter.unusedSimpArgs false
set_option maxRecDepth 100000
set_option maxHeartbeats 8000000
section
open Go.RowKit
theorem ry (a : Option Addr) (len cap : Nat) (i : Nat) (most : Int) (w : World) (hl : len ≤ 1048576) (hi : i ≤ 1000) (hm : most ≤ 9223372036854775807) (hR : Row w a len w.heap.size) :
  Calls Tryz.prog 28 #[.slice a len cap, .int .i64 (i : Int), .int .i64 most] w fun e w' => ∃ k : Int, e = .returned (.int .i64 k) ∧ 0 ≤ k ∧ (1 < most → k < most) ∧ (most ≤ 1 → k = 0) ∧ w' = w := by
 by_cases h1 : most ≤ 1
 ·clear hR
  go_enter Tryz.func28, Tryz.ntmps28
  go_wp2
  go_ret
  exact ⟨0, rfl, Int.le_refl _, by omega, fun _ => rfl, rfl⟩
 ·have hm1 : 1 < most := by omega
  rcases hR with rfl | ⟨bx, ox, rfl, hb, hz⟩
  ·go_enter Tryz.func28, Tryz.ntmps28
   go_wp2
   go_ret
   exact ⟨0, rfl, Int.le_refl _, by omega, fun _ => rfl, rfl⟩
  ·by_cases h0 : len = 0
   ·subst h0
    clear hz
    go_enter Tryz.func28, Tryz.ntmps28
    go_wp2
    go_ret
    exact ⟨0, rfl, Int.le_refl _, by omega, fun _ => rfl, rfl⟩
   ·obtain ⟨z, cz, z0, z1⟩ := hz (i % len) (Nat.mod_lt _ (by omega))
    have hlz : ((len : Int) == 0) = false := by simp; omega
    have hlp : (0 : Int) < (len : Int) := by omega
    obtain ⟨j, hj⟩ : ∃ j : Nat, (i : Int) % (len : Int) = (j : Int) := ⟨i % len, by simp⟩
    have hj2 : i % len = j := by omega
    rw [hj2] at cz
    have hjl : (j : Int) < (len : Int) := by have := Nat.mod_lt i (show 0 < len by omega); omega
    clear hz h0 hj2
    go_enter Tryz.func28, Tryz.ntmps28
    go_wp2
    go_ret
    have e0 : 0 ≤ z % most := Int.emod_nonneg _ (by omega)
    have e1 : z % most < most := Int.emod_lt_of_pos _ (by omega)
    exact ⟨z % most, rfl, e0, by first | exact e1 | exact fun _ => e1, by intro h; omega, rfl⟩
end
end Go.Proofs.YthoiooefclbecaaGreatDoor
