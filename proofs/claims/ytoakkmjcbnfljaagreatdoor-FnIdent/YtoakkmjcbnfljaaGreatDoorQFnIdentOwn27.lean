/- Several texts in one: Src3. -/
import Derived.Test.YtoakkmjcbnfljaaGreatDoorQFnIdentOwn26
namespace Go.Proofs.YtoakkmjcbnfljaaGreatDoor
set_option linter.unusedVariables false
set_option linter.unusedSimpArgs false
set_option maxRecDepth 100000
set_option maxHeartbeats 8000000
section
open Go.RowKit
theorem me (a : Int) : 0 ≤ IntKind.u64.wrap a ∧ IntKind.u64.wrap a ≤ 18446744073709551615 := by
 have h := wf_wrap .u64 a
 simpa [Lit.wf, IntKind.min, IntKind.max, IntKind.signed, IntKind.bits] using h
theorem fL (a : Option Addr) (len cap : Nat) (w : World) (hl : len ≤ 1048576) (hR : Row w a len w.heap.size) :
  Calls Tryz.prog 24 #[.slice a len cap] w fun e w' => e = .returned (.pointer (some ⟨w.heap.size, 0, none⟩)) ∧ aU w.heap.size w' ∧ Below w.heap.size w w' := by
 have HR := yz hR
 clear hR
 go_enter Tryz.func24, Tryz.ntmps24
 go_wp2
 go_loopw [4] (fun i wr => ∃ (k : Nat) (mix : Int), k ≤ len ∧ k ≤ 64 ∧ i = .int .i64 k ∧ 0 ≤ mix ∧ mix ≤ 18446744073709551615 ∧
   wr.cell? ⟨w.heap.size, 0, none⟩ = some (.slice a len cap) ∧ wr.cell? ⟨w.heap.size, 1, none⟩ = some (.int .i64 0) ∧ wr.cell? ⟨w.heap.size, 2, none⟩ = some (.int .u64 mix) ∧ wr.cell? ⟨w.heap.size, 3, none⟩ = some (.int .i64 0) ∧
   wr.frozen? ⟨w.heap.size, 0, none⟩ = false ∧ wr.frozen? ⟨w.heap.size, 1, none⟩ = false ∧ wr.frozen? ⟨w.heap.size, 2, none⟩ = false ∧ wr.frozen? ⟨w.heap.size, 3, none⟩ = false ∧ Below w.heap.size w wr) (fun i _ => 64 - (intOf i).toNat)
 case atStart => exact ⟨0, 88172645463325252, by omega, by omega, rfl, by omega, by omega, by simp, by simp, by simp, by simp, by simp, by simp, by simp, by simp, (Below.refl _ _).alloc (Nat.le_refl _) _⟩
 case round =>
  obtain ⟨k, mix, hk, hk64, rfl, m0, m1, c0, c1, c2, c3, f0, f1, f2, f3, hB⟩ := hrel
  by_cases hlt : k < len ∧ k < 64
  ·obtain ⟨h1, h2⟩ := hlt
   rcases yy HR with h0 | ⟨bx, ox, rfl, hbx, hz⟩
   ·omega
   obtain ⟨z, cz, z0, z1⟩ := hz k h1
   have cz' : wr.cell? ⟨bx, ox + k, none⟩ = some (.int .u8 z) := by rw [hB.cell (p := ⟨bx, ox + k, none⟩) hbx]; exact cz
   obtain ⟨m, hme⟩ : ∃ m, IntKind.u64.wrap (bits .xor .u64 mix z * 1099511628211) = m := ⟨_, rfl⟩
   have hmr : 0 ≤ m ∧ m ≤ 18446744073709551615 := by rw [← hme]; exact me _
   have hk1 : (k : Int) < (len : Int) := by omega
   have hk2 : (k : Int) < 64 := by omega
   clear hz cz
   go_wp2
   go_region
   go_wp2
   go_roundw
   case rel => exact ⟨k + 1, m, by omega, by omega, by go_num, hmr.1, hmr.2, by go_simp, by go_simp, by go_simp, by go_simp, by go_simp, by go_simp, by go_simp, by go_simp, (hB.setCell (Nat.le_refl _) _).drew⟩
   case measure => simp [intOf]; omega
  ·have hRr := (yy HR).kept hB.block
   have HRr := yz hRr
   have hss := fun v v' => nP wr w.heap.size 3 v v'
   have hex : ((len : Int) ≤ (k : Int) ∧ (len : Int) / 20 ≤ 12) ∨ (((k : Int) < (len : Int) ∧ (64 : Int) ≤ (k : Int)) ∧ (len : Int) / 20 ≤ 12) ∨ (((k : Int) < (len : Int) ∧ (64 : Int) ≤ (k : Int)) ∧ 12 < (len : Int) / 20) := by omega
   clear hRr hlt
   rcases hex with ⟨hex, hq⟩ | ⟨hex, hq⟩ | ⟨hex, hq⟩
   ·go_wp2
    go_ret
    exact ⟨rfl, ⟨a, len, cap, 0, mix, (len : Int) / 20, by go_simp, by go_simp, by go_simp, by go_simp, by go_simp, by go_simp, by go_simp, by go_simp, by omega, by omega, hl, m0, m1, by omega, by omega, (yy HRr).kept (fun j hj => Below.heap_setCell _ _ _ _ (by simp; omega))⟩, hB.setCell (Nat.le_refl _) _⟩
   ·go_wp2
    go_ret
    exact ⟨rfl, ⟨a, len, cap, 0, mix, (len : Int) / 20, by go_simp, by go_simp, by go_simp, by go_simp, by go_simp, by go_simp, by go_simp, by go_simp, by omega, by omega, hl, m0, m1, by omega, by omega, (yy HRr).kept (fun j hj => Below.heap_setCell _ _ _ _ (by simp; omega))⟩, hB.setCell (Nat.le_refl _) _⟩
   ·go_wp2
    go_ret
    exact ⟨rfl, ⟨a, len, cap, 0, mix, 12, by go_simp, by go_simp, by go_simp, by go_simp, by go_simp, by go_simp, by go_simp, by go_simp, by omega, by omega, hl, m0, m1, by omega, by omega, (yy HRr).kept (fun j hj => Below.heap_setCell _ _ _ _ (by simp; omega))⟩, hB.setCell (Nat.le_refl _) _⟩
end
end Go.Proofs.YtoakkmjcbnfljaaGreatDoor
