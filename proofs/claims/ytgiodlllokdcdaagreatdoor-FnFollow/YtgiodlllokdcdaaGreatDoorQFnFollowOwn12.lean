/- Several texts in one: Src, Src2, Src3, Draw3, LwT, SkyW. -/
import Derived.Test.YtgiodlllokdcdaaGreatDoorRows
import Derived.WalkKit
import Derived.WalkSpells
import Derived.WalkLawsBesides
import Derived.RegionTactic
import Derived.BigRegion
import Derived.Deep.QuietTactic
import Derived.BigQuiet
import Derived.OpenShut
import Derived.Deep.Slices
import Derived.Deep.Strs
import Derived.Stop.LaidErr
import Derived.LaidHandle
import Derived.LaidMore
import Derived.ProofKit
import Derived.Test.YtgiodlllokdcdaaGreatDoorQFnFollowOwn1
import Derived.Test.YtgiodlllokdcdaaGreatDoorQFnFollowOwn2
namespace Go.Proofs.YtgiodlllokdcdaaGreatDoor
set_option linter.unusedVariables false
set_option linter.unusedSimpArgs false
set_option maxRecDepth 100000
set_option maxHeartbeats 8000000
section
open Go.RowKit
def Row (w : World) (a : Option Addr) (len : Nat) (B : Nat) : Prop :=
 len = 0 ∨ ∃ bx ox, a = some ⟨bx, ox, none⟩ ∧ bx < B ∧ ∀ i, i < len → ∃ z : Int, w.cell? ⟨bx, ox + i, none⟩ = some (.int .u8 z) ∧ 0 ≤ z ∧ z ≤ 255
theorem Row.kept {w w' : World} {a : Option Addr} {len B : Nat} (h : Row w a len B) (hk : ∀ k, k < B → w'.heap[k]? = w.heap[k]?) : Row w' a len B := by
 rcases h with h | ⟨bx, ox, ha, hb, hc⟩
 ·exact .inl h
 ·refine .inr ⟨bx, ox, ha, hb, fun i hi => ?_⟩
  obtain ⟨z, hz, h0, h1⟩ := hc i hi
  exact ⟨z, by rw [World.cell?_of_block (w := w) (hk bx hb)]; exact hz, h0, h1⟩
def aU (b : Nat) (w : World) : Prop := ∃ (a : Option Addr) (len cap : Nat) (at_ mix size : Int),
 w.cell? ⟨b, 0, none⟩ = some (.slice a len cap) ∧ w.cell? ⟨b, 1, none⟩ = some (.int .i64 at_) ∧ w.cell? ⟨b, 2, none⟩ = some (.int .u64 mix) ∧ w.cell? ⟨b, 3, none⟩ = some (.int .i64 size) ∧
 w.frozen? ⟨b, 0, none⟩ = false ∧ w.frozen? ⟨b, 1, none⟩ = false ∧ w.frozen? ⟨b, 2, none⟩ = false ∧ w.frozen? ⟨b, 3, none⟩ = false ∧
 0 ≤ at_ ∧ at_ ≤ len ∧ len ≤ 1048576 ∧ 0 ≤ mix ∧ mix ≤ 18446744073709551615 ∧ 0 ≤ size ∧ size ≤ 12 ∧ Row w a len b
theorem kt (a b : Int) : 0 ≤ bits .xor .u64 a b ∧ bits .xor .u64 a b ≤ 18446744073709551615 := by
 have h := wf_bits .xor .u64 a b
 simpa [Lit.wf, IntKind.min, IntKind.max, IntKind.signed, IntKind.bits] using h
theorem wg (b : Nat) (most : Int) (w : World) (h : most ≤ 1) :
  Calls Tryz.prog 35 #[.pointer (some ⟨b, 0, none⟩), .int .i64 most] w fun e w' => e = .returned (.int .i64 0) ∧ w' = w := by
 go_enter Tryz.func35, Tryz.ntmps35
 go_wp2
 go_ret
 exact ⟨rfl, rfl⟩
theorem oK (w : World) (b o : Nat) (v v' : Value) : (w.setCell ⟨b, o, none⟩ v).setCell ⟨b, o, none⟩ v' = w.setCell ⟨b, o, none⟩ v' := by
 unfold World.setCell
 congr 1
 apply Array.ext
 ·simp
 ·intro i h1 h2
  simp only [Array.getElem_modify]
  by_cases e : b = i
  ·simp only [e, if_true]
   split <;> rename_i h <;> revert h <;> split <;> intro h <;> simp_all
   obtain ⟨rfl, rfl, rfl⟩ := h
   simp
  ·simp [e]
def drawn (v m most : Int) : Int := (v + m / 1048576) % most
theorem vO (b : Nat) (most : Int) (w : World) (a : Option Addr) (len cap : Nat) (at_ mix : Int) (h : 1 < most) (hm : most ≤ 9223372036854775807)
  (c0 : w.cell? ⟨b, 0, none⟩ = some (.slice a len cap)) (c1 : w.cell? ⟨b, 1, none⟩ = some (.int .i64 at_)) (c2 : w.cell? ⟨b, 2, none⟩ = some (.int .u64 mix))
  (f2 : w.frozen? ⟨b, 2, none⟩ = false) (hlen : len ≤ 1048576) (hat : (len : Int) ≤ at_) (hm0 : 0 ≤ mix) (hm1 : mix ≤ 18446744073709551615) :
  Calls Tryz.prog 35 #[.pointer (some ⟨b, 0, none⟩), .int .i64 most] w fun e w' => ∃ k m : Int, e = .returned (.int .i64 k) ∧ 0 ≤ k ∧ k < most ∧ 0 ≤ m ∧ m ≤ 18446744073709551615 ∧ w'.heap = (w.setCell ⟨b, 2, none⟩ (.int .u64 m)).heap ∧ w'.os = w.os ∧ w'.tape = w.tape ∧ w'.output = w.output := by
 have hss := fun v v' => oK w b 2 v v'
 have hx := kt
 obtain ⟨m1, hm1e⟩ : ∃ m, bits .xor .u64 mix (IntKind.u64.wrap (mix * 8192)) = m := ⟨_, rfl⟩
 obtain ⟨m2, hm2e⟩ : ∃ m, bits .xor .u64 m1 (m1 / 128) = m := ⟨_, rfl⟩
 obtain ⟨m3, hm3e⟩ : ∃ m, bits .xor .u64 m2 (IntKind.u64.wrap (m2 * 131072)) = m := ⟨_, rfl⟩
 have r1 : 0 ≤ m1 ∧ m1 ≤ 18446744073709551615 := by rw [← hm1e]; exact hx _ _
 have r2 : 0 ≤ m2 ∧ m2 ≤ 18446744073709551615 := by rw [← hm2e]; exact hx _ _
 have r3 : 0 ≤ m3 ∧ m3 ≤ 18446744073709551615 := by rw [← hm3e]; exact hx _ _
 clear hx
 go_enter Tryz.func35, Tryz.ntmps35
 go_wp2
 go_region
 go_wp2
 go_region
 go_wp2
 go_region
 go_wp2
 go_region
 go_wp2
 go_ret
 have hk0 : 0 ≤ m3 / 1048576 % most := Int.emod_nonneg _ (by omega)
 have hk1 : m3 / 1048576 % most < most := Int.emod_lt_of_pos _ (by omega)
 have hkw : wrap64 (m3 / 1048576 % most) = m3 / 1048576 % most := by unfold wrap64; omega
 exact ⟨_, m3, rfl, by rw [hkw]; exact hk0, by rw [hkw]; exact hk1, r3.1, r3.2, rfl, rfl, rfl, rfl⟩
theorem n_in (b : Nat) (most : Int) (w : World) (bx ox : Nat) (len cap at_ : Nat) (mix z : Int) (h : 1 < most) (hm : most ≤ 9223372036854775807)
  (c0 : w.cell? ⟨b, 0, none⟩ = some (.slice (some ⟨bx, ox, none⟩) len cap)) (c1 : w.cell? ⟨b, 1, none⟩ = some (.int .i64 (at_ : Int))) (c2 : w.cell? ⟨b, 2, none⟩ = some (.int .u64 mix))
  (f1 : w.frozen? ⟨b, 1, none⟩ = false) (f2 : w.frozen? ⟨b, 2, none⟩ = false) (hlen : len ≤ 1048576) (hat : (at_ : Int) < (len : Int)) (hm0 : 0 ≤ mix) (hm1 : mix ≤ 18446744073709551615)
  (cz : w.cell? ⟨bx, ox + at_, none⟩ = some (.int .u8 z)) (z0 : 0 ≤ z) (z1 : z ≤ 255) :
  Calls Tryz.prog 35 #[.pointer (some ⟨b, 0, none⟩), .int .i64 most] w fun e w' => ∃ k m : Int, e = .returned (.int .i64 k) ∧ 0 ≤ k ∧ k < most ∧ 0 ≤ m ∧ m ≤ 18446744073709551615 ∧ w'.heap = ((w.setCell ⟨b, 1, none⟩ (.int .i64 ((at_ : Int) + 1))).setCell ⟨b, 2, none⟩ (.int .u64 m)).heap ∧ w'.os = w.os ∧ w'.tape = w.tape ∧ w'.output = w.output := by
 have hss := fun v v' => oK (w.setCell ⟨b, 1, none⟩ (.int .i64 ((at_ : Int) + 1))) b 2 v v'
 have hx := kt
 obtain ⟨m1, hm1e⟩ : ∃ m, bits .xor .u64 mix (IntKind.u64.wrap (mix * 8192)) = m := ⟨_, rfl⟩
 obtain ⟨m2, hm2e⟩ : ∃ m, bits .xor .u64 m1 (m1 / 128) = m := ⟨_, rfl⟩
 obtain ⟨m3, hm3e⟩ : ∃ m, bits .xor .u64 m2 (IntKind.u64.wrap (m2 * 131072)) = m := ⟨_, rfl⟩
 have r1 : 0 ≤ m1 ∧ m1 ≤ 18446744073709551615 := by rw [← hm1e]; exact hx _ _
 have r2 : 0 ≤ m2 ∧ m2 ≤ 18446744073709551615 := by rw [← hm2e]; exact hx _ _
 have r3 : 0 ≤ m3 ∧ m3 ≤ 18446744073709551615 := by rw [← hm3e]; exact hx _ _
 clear hx
 go_enter Tryz.func35, Tryz.ntmps35
 go_wp2
 go_region
 go_wp2
 go_region
 go_wp2
 go_region
 go_wp2
 go_region
 go_wp2
 go_region
 go_wp2
 go_ret
 have hk0 : 0 ≤ (z + m3 / 1048576) % most := Int.emod_nonneg _ (by omega)
 have hk1 : (z + m3 / 1048576) % most < most := Int.emod_lt_of_pos _ (by omega)
 have hkw : wrap64 ((z + m3 / 1048576) % most) = (z + m3 / 1048576) % most := by unfold wrap64; omega
 exact ⟨_, m3, rfl, by rw [hkw]; exact hk0, by rw [hkw]; exact hk1, r3.1, r3.2, rfl, rfl, rfl, rfl⟩
theorem dZ {w w' : World} (h : w'.heap = w.heap) (a : Addr) : w'.cell? a = w.cell? a := World.cell?_of_block (by rw [h])
theorem dh {w w' : World} (h : w'.heap = w.heap) (a : Addr) : w'.frozen? a = w.frozen? a := World.frozen?_of_block (by rw [h])
theorem bq (b : Nat) (most : Int) (w : World) (hS : aU b w) (hm : most ≤ 9223372036854775807) :
  Calls Tryz.prog 35 #[.pointer (some ⟨b, 0, none⟩), .int .i64 most] w fun e w' => ∃ k : Int, e = .returned (.int .i64 k) ∧ 0 ≤ k ∧ (1 < most → k < most) ∧ (most ≤ 1 → k = 0) ∧ aU b w' ∧ w.grownBy w' (some b) := by
 by_cases h : most ≤ 1
 ·refine (wg b most w h).mono ?_
  rintro e w' ⟨rfl, rfl⟩
  exact ⟨0, rfl, Int.le_refl _, by omega, fun _ => rfl, hS, ⟨rfl, rfl, rfl, Nat.le_refl _, fun _ _ _ => rfl⟩⟩
 obtain ⟨a, len, cap, at_, mix, size, c0, c1, c2, c3, f0, f1, f2, f3, a0, a1, hl, m0, m1, s0, s1, hR⟩ := hS
 by_cases hat : at_ < len
 ·obtain ⟨n, rfl⟩ : ∃ n : Nat, at_ = (n : Int) := ⟨at_.toNat, by omega⟩
  rcases hR with h0 | ⟨bx, ox, rfl, hb, hz⟩
  ·omega
  obtain ⟨z, cz, z0, z1⟩ := hz n (by omega)
  refine (n_in b most w bx ox len cap n mix z (by omega) hm c0 c1 c2 f1 f2 hl hat m0 m1 cz z0 z1).mono ?_
  rintro e w' ⟨k, m, rfl, k0, k1, hm0, hm1, hh, ho, ht, hu⟩
  have hne : ∀ k, k ≠ b → w'.heap[k]? = w.heap[k]? := fun k hk => by rw [hh, Below.heap_setCell _ _ _ _ hk, Below.heap_setCell _ _ _ _ hk]
  refine ⟨k, rfl, k0, fun _ => k1, fun h' => absurd h' h, ⟨some ⟨bx, ox, none⟩, len, cap, (n : Int) + 1, m, size, ?_, ?_, ?_, ?_, ?_, ?_, ?_, ?_, by omega, by omega, hl, hm0, hm1, s0, s1, Row.kept (.inr ⟨bx, ox, rfl, hb, hz⟩) (fun k hk => hne k (by omega))⟩,
   ⟨ho, ht, hu, by rw [hh]; simp [World.setCell], fun k _ hk => hne k (fun e => hk (by rw [e]))⟩⟩
  ·rw [dZ hh]; go_simp
  ·rw [dZ hh]; go_simp
  ·rw [dZ hh]; go_simp
  ·rw [dZ hh]; go_simp
  ·rw [dh hh]; simp only [World.frozen?_setCell]; exact f0
  ·rw [dh hh]; simp only [World.frozen?_setCell]; exact f1
  ·rw [dh hh]; simp only [World.frozen?_setCell]; exact f2
  ·rw [dh hh]; simp only [World.frozen?_setCell]; exact f3
 ·refine (vO b most w a len cap at_ mix (by omega) hm c0 c1 c2 f2 hl (by omega) m0 m1).mono ?_
  rintro e w' ⟨k, m, rfl, k0, k1, hm0, hm1, hh, ho, ht, hu⟩
  have hne : ∀ k, k ≠ b → w'.heap[k]? = w.heap[k]? := fun k hk => by rw [hh, Below.heap_setCell _ _ _ _ hk]
  refine ⟨k, rfl, k0, fun _ => k1, fun h' => absurd h' h, ⟨a, len, cap, at_, m, size, ?_, ?_, ?_, ?_, ?_, ?_, ?_, ?_, by omega, by omega, hl, hm0, hm1, s0, s1, Row.kept hR (fun k hk => hne k (by omega))⟩,
   ⟨ho, ht, hu, by rw [hh]; simp [World.setCell], fun k _ hk => hne k (fun e => hk (by rw [e]))⟩⟩
  ·rw [dZ hh]; go_simp
  ·rw [dZ hh]; go_simp
  ·rw [dZ hh]; go_simp
  ·rw [dZ hh]; go_simp
  ·rw [dh hh]; simp only [World.frozen?_setCell]; exact f0
  ·rw [dh hh]; simp only [World.frozen?_setCell]; exact f1
  ·rw [dh hh]; simp only [World.frozen?_setCell]; exact f2
  ·rw [dh hh]; simp only [World.frozen?_setCell]; exact f3
theorem aU.kept {b : Nat} {w w' : World} {row : Option Nat} (h : aU b w) (hg : w.grownBy w' row) (hr : ∀ k, row = some k → b < k) : aU b w' := by
 obtain ⟨a, len, cap, at_, mix, size, c0, c1, c2, c3, f0, f1, f2, f3, a0, a1, hl, m0, m1, s0, s1, hR⟩ := h
 have hlt : b < w.heap.size := World.block_lt_of_cell? w ⟨b, 0, none⟩ c0
 have hk : ∀ k, k ≤ b → w'.heap[k]? = w.heap[k]? := fun k hk => hg.block k (by omega) (fun e => by have := hr k e.symm; omega)
 have hc : ∀ o, w'.cell? ⟨b, o, none⟩ = w.cell? ⟨b, o, none⟩ := fun o => World.cell?_of_block (hk b (Nat.le_refl _))
 have hf : ∀ o, w'.frozen? ⟨b, o, none⟩ = w.frozen? ⟨b, o, none⟩ := fun o => World.frozen?_of_block (hk b (Nat.le_refl _))
 exact ⟨a, len, cap, at_, mix, size, by rw [hc]; exact c0, by rw [hc]; exact c1, by rw [hc]; exact c2, by rw [hc]; exact c3, by rw [hf]; exact f0, by rw [hf]; exact f1, by rw [hf]; exact f2, by rw [hf]; exact f3, a0, a1, hl, m0, m1, s0, s1, hR.kept (fun k h => hk k (by omega))⟩
theorem ak {a b c : World} {row : Option Nat} (h : a.grownBy b row) (k : b.grownBy c row) : a.grownBy c row :=
 ⟨k.os.trans h.os, k.tape.trans h.tape, k.output.trans h.output, Nat.le_trans h.size k.size, fun i hi hn => (k.block i (Nat.lt_of_lt_of_le hi h.size) hn).trans (h.block i hi hn)⟩
theorem aU.lt {b : Nat} {w : World} (h : aU b w) : b < w.heap.size := by
 obtain ⟨a, len, cap, at_, mix, size, c0, _⟩ := h
 exact World.block_lt_of_cell? w ⟨b, 0, none⟩ c0
theorem bO (b : Nat) (of : Int) (w : World) (hS : aU b w) (hm : of ≤ 9223372036854775807) :
  Calls Tryz.prog 26 #[.pointer (some ⟨b, 0, none⟩), .int .i64 of] w fun e w' => ∃ y : Bool, e = .returned (.bool y) ∧ aU b w' ∧ w.grownBy w' (some b) := by
 have HS := yz hS
 clear hS
 go_enter Tryz.func26, Tryz.ntmps26
 go_wp2_with fail
 refine (bq b of w (yy HS) hm).mono ?_
 rintro e w1 ⟨k, rfl, k0, k1, k2, hS1, hg⟩
 have HS1 := yz hS1
 clear hS1
 go_wp2
 go_ret
 exact ⟨_, rfl, yy HS1, hg⟩
theorem ek (w w1 : World) (b : Nat) (T : TypeId) (cs : Array Value) (hg : (w.alloc (.cells cs T)).grownBy w1 (some b)) (hb : b < w.heap.size) (k : Nat) (v : Value) (hv : cs[k]? = some v) :
  w1.cell? ⟨w.heap.size, k, none⟩ = some v := by
 refine hg.cell ?_ (by intro e; have := Option.some.inj e; simp at this; omega)
 simp [hv]
theorem mN (a : Int) : 0 ≤ IntKind.u64.wrap a ∧ IntKind.u64.wrap a ≤ 18446744073709551615 := by
 have h := wf_wrap .u64 a
 simpa [Lit.wf, IntKind.min, IntKind.max, IntKind.signed, IntKind.bits] using h
theorem qW (a : Option Addr) (len cap : Nat) (w : World) (hl : len ≤ 1048576) (hR : Row w a len w.heap.size) :
  Calls Tryz.prog 24 #[.slice a len cap] w fun e w' => e = .returned (.pointer (some ⟨w.heap.size, 0, none⟩)) ∧ aU w.heap.size w' ∧ Below w.heap.size w w' := by
 have HR := yz hR
 clear hR
 go_enter Tryz.func24, Tryz.ntmps24
 go_wp2
 go_loopw [4] (fun i wr => ∃ (k : Nat) (mix : Int), k ≤ len ∧ k ≤ 64 ∧ i = .int .i64 k ∧ 0 ≤ mix ∧ mix ≤ 18446744073709551615 ∧
   wr.cell? ⟨w.heap.size, 0, none⟩ = some (.slice a len cap) ∧ wr.cell? ⟨w.heap.size, 1, none⟩ = some (.int .i64 0) ∧ wr.cell? ⟨w.heap.size, 2, none⟩ = some (.int .u64 mix) ∧ wr.cell? ⟨w.heap.size, 3, none⟩ = some (.int .i64 0) ∧
   wr.frozen? ⟨w.heap.size, 0, none⟩ = false ∧ wr.frozen? ⟨w.heap.size, 1, none⟩ = false ∧ wr.frozen? ⟨w.heap.size, 2, none⟩ = false ∧ wr.frozen? ⟨w.heap.size, 3, none⟩ = false ∧ Below w.heap.size w wr) (fun i _ => 64 - (intOf i).toNat)
 case atStart => exact ⟨0, 88172645463325252, by omega, by omega, rfl, by omega, by omega, by simp, by simp, by simp, by simp, by simp, by simp, by simp, by simp, (Below.refl _ _).alloc (Nat.le_refl _) _⟩
 case round =>
  obtain ⟨k, mix, hk, hk64, rfl, m0, m1, c0, c1, c2, c3, f0, f1, f2, f3, hB⟩ := hrel
  by_cases hlt : k < len ∧ k < 64
  ·obtain ⟨h1, h2⟩ := hlt
   rcases yy HR with h0 | ⟨bx, ox, rfl, hbx, hz⟩
   ·omega
   obtain ⟨z, cz, z0, z1⟩ := hz k h1
   have cz' : wr.cell? ⟨bx, ox + k, none⟩ = some (.int .u8 z) := by rw [hB.cell (p := ⟨bx, ox + k, none⟩) hbx]; exact cz
   obtain ⟨m, hme⟩ : ∃ m, IntKind.u64.wrap (bits .xor .u64 mix z * 1099511628211) = m := ⟨_, rfl⟩
   have hmr : 0 ≤ m ∧ m ≤ 18446744073709551615 := by rw [← hme]; exact mN _
   have hk1 : (k : Int) < (len : Int) := by omega
   have hk2 : (k : Int) < 64 := by omega
   clear hz cz
   go_wp2
   go_region
   go_wp2
   go_roundw
   case rel => exact ⟨k + 1, m, by omega, by omega, by go_num, hmr.1, hmr.2, by go_simp, by go_simp, by go_simp, by go_simp, by go_simp, by go_simp, by go_simp, by go_simp, (hB.setCell (Nat.le_refl _) _).drew⟩
   case measure => simp [intOf]; omega
  ·have hRr := (yy HR).kept hB.block
   have HRr := yz hRr
   have hss := fun v v' => oK wr w.heap.size 3 v v'
   have hex : ((len : Int) ≤ (k : Int) ∧ (len : Int) / 20 ≤ 12) ∨ (((k : Int) < (len : Int) ∧ (64 : Int) ≤ (k : Int)) ∧ (len : Int) / 20 ≤ 12) ∨ (((k : Int) < (len : Int) ∧ (64 : Int) ≤ (k : Int)) ∧ 12 < (len : Int) / 20) := by omega
   clear hRr hlt
   rcases hex with ⟨hex, hq⟩ | ⟨hex, hq⟩ | ⟨hex, hq⟩
   ·go_wp2
    go_ret
    exact ⟨rfl, ⟨a, len, cap, 0, mix, (len : Int) / 20, by go_simp, by go_simp, by go_simp, by go_simp, by go_simp, by go_simp, by go_simp, by go_simp, by omega, by omega, hl, m0, m1, by omega, by omega, (yy HRr).kept (fun j hj => Below.heap_setCell _ _ _ _ (by simp; omega))⟩, hB.setCell (Nat.le_refl _) _⟩
   ·go_wp2
    go_ret
    exact ⟨rfl, ⟨a, len, cap, 0, mix, (len : Int) / 20, by go_simp, by go_simp, by go_simp, by go_simp, by go_simp, by go_simp, by go_simp, by go_simp, by omega, by omega, hl, m0, m1, by omega, by omega, (yy HRr).kept (fun j hj => Below.heap_setCell _ _ _ _ (by simp; omega))⟩, hB.setCell (Nat.le_refl _) _⟩
   ·go_wp2
    go_ret
    exact ⟨rfl, ⟨a, len, cap, 0, mix, 12, by go_simp, by go_simp, by go_simp, by go_simp, by go_simp, by go_simp, by go_simp, by go_simp, by omega, by omega, hl, m0, m1, by omega, by omega, (yy HRr).kept (fun j hj => Below.heap_setCell _ _ _ _ (by simp; omega))⟩, hB.setCell (Nat.le_refl _) _⟩
theorem lT (b : Nat) (w : World) (hS : aU b w) :
  Calls Tryz.prog 91 #[.pointer (some ⟨b, 0, none⟩)] w fun e w' => ∃ v : Int, e = .returned (.int .i64 v) ∧ aU b w' ∧ w.grownBy w' (some b) := by
 have HS := yz hS
 clear hS
 go_enter Tryz.func91, Tryz.ntmps91
 go_wp2_with fail
 refine (bO b 15 _ (yy HS) (by omega)).mono ?_
 rintro e w1 ⟨y, rfl, hS1, hg1⟩
 have HS1 := yz hS1
 have HL := yz hS1.lt
 clear hS1
 cases y
 ·go_wp2_with fail
  refine (bO b 4 _ (yy HS1) (by omega)).mono ?_
  rintro e w2 ⟨y, rfl, hS2, hg2⟩
  have HS2 := yz hS2
  have hg := ak hg1 hg2
  clear hS2 hg1 hg2
  cases y
  ·go_wp2_with fail
   refine (bq b 9 _ (yy HS2) (by omega)).mono ?_
   rintro e w3 ⟨z, rfl, z0, z1, z2, hS3, hg3⟩
   have hg' := ak hg hg3
   have HS3 := yz hS3
   clear hS3 hg3 hg z1 z2
   go_wp2_with fail
   go_ret
   exact ⟨_, rfl, yy HS3, hg'⟩
  ·go_wp2_with fail
   refine (bq b 400 _ (yy HS2) (by omega)).mono ?_
   rintro e w3 ⟨z, rfl, z0, z1, z2, hS3, hg3⟩
   have hg' := ak hg hg3
   have HS3 := yz hS3
   clear hS3 hg3 hg z1 z2
   go_wp2_with fail
   go_ret
   exact ⟨_, rfl, yy HS3, hg'⟩
 ·go_wp2_with fail
  refine (bq b 6 _ ((yy HS1).kept (World.grownBy_alloc w1 _ none) (fun _ e => by cases e)) (by omega)).mono ?_
  rintro e w2 ⟨z, rfl, z0, z1, z2, hS2, hg2⟩
  have hz6 : z < 6 := z1 (by omega)
  have HS2 := yz hS2
  obtain ⟨k, rfl⟩ : ∃ k : Nat, z = (k : Int) := ⟨z.toNat, by omega⟩
  have hc : ∃ v : Int, w2.cell? ⟨w1.heap.size, k, none⟩ = some (.int .i64 v) := by
   have hk : k < 6 := by omega
   match k, hk with
   | 0, _ => exact ⟨_, ek w1 w2 b _ _ hg2 (yy HL) 0 _ rfl⟩
   | 1, _ => exact ⟨_, ek w1 w2 b _ _ hg2 (yy HL) 1 _ rfl⟩
   | 2, _ => exact ⟨_, ek w1 w2 b _ _ hg2 (yy HL) 2 _ rfl⟩
   | 3, _ => exact ⟨_, ek w1 w2 b _ _ hg2 (yy HL) 3 _ rfl⟩
   | 4, _ => exact ⟨_, ek w1 w2 b _ _ hg2 (yy HL) 4 _ rfl⟩
   | 5, _ => exact ⟨_, ek w1 w2 b _ _ hg2 (yy HL) 5 _ rfl⟩
  obtain ⟨v, hv⟩ := hc
  have hgw : w1.grownBy w2 (some b) := ak (World.grownBy_alloc w1 _ (some b)) hg2
  have hg' := ak hg1 hgw
  clear z1 z2 hS2 hg2 hgw hg1
  go_wp2
  go_ret
  exact ⟨v, rfl, yy HS2, hg'⟩
theorem az {a w : World} {row : Option Nat} (h : a.grownBy w row) {p : Addr} (hp : a.heap.size ≤ p.block) (v : Value) : a.grownBy (w.setCell p v) row :=
 ⟨h.os, h.tape, h.output, by have := h.size; simpa [World.setCell] using this, fun i hi hn => (Below.heap_setCell w p v i (by omega)).trans (h.block i hi hn)⟩
theorem aU.set {b : Nat} {w : World} (h : aU b w) {p : Addr} (hp : b < p.block) (v : Value) : aU b (w.setCell p v) :=
 h.kept (row := some p.block) ⟨rfl, rfl, rfl, by simp [World.setCell], fun i hi hn => Below.heap_setCell w p v i (fun e => hn (by rw [e]))⟩ (fun k e => by have := Option.some.inj e; omega)
theorem aD.grown {w w' : World} {b c : Nat} {x y z : Int} (h : aD w b x y z) (hg : w.grownBy w' (some c)) (hne : b ≠ c) : aD w' b x y z := by
 obtain ⟨h0, h1, h2⟩ := h
 have hn : ∀ i, some (⟨b, i, none⟩ : Addr).block ≠ some c := fun i e => hne (Option.some.inj e)
 exact ⟨hg.cell h0 (hn 0), hg.cell h1 (hn 1), hg.cell h2 (hn 2)⟩
theorem bT.grown {w w' : World} {b c : Nat} (h : bT w b) (hb : b < w.heap.size) (hg : w.grownBy w' (some c)) (hne : b ≠ c) : bT w' b := by
 obtain ⟨h0, h1, h2⟩ := h
 have hf : ∀ i, w'.frozen? ⟨b, i, none⟩ = w.frozen? ⟨b, i, none⟩ := fun i => World.frozen?_of_block (hg.block b hb (fun e => hne (Option.some.inj e)))
 exact ⟨by rw [hf]; exact h0, by rw [hf]; exact h1, by rw [hf]; exact h2⟩
theorem aU.allocs {b : Nat} {w : World} (h : aU b w) (o : Obj) : aU b (w.alloc o) := h.kept (World.grownBy_alloc w o none) (fun _ e => by cases e)
theorem rX (b : Nat) (w : World) (hS : aU b w) :
  Calls Tryz.prog 61 #[.pointer (some ⟨b, 0, none⟩)] w fun e w' => ∃ x y z : Int, e = .returned (.agg #[.int .i64 x, .int .i64 y, .int .i64 z]) ∧ aU b w' ∧ w.grownBy w' (some b) := by
 have hlt := hS.lt
 have HS := yz hS
 clear hS
 go_enter Tryz.func61, Tryz.ntmps61
 go_wp2_with fail
 refine (lT b _ ((yy HS).allocs _)).mono ?_
 rintro e w1 ⟨x, rfl, hS1, hg1⟩
 have vr := (aC w 0 0 0 78).grown hg1 (by omega)
 have fr := (bu w 0 0 0 78).grown (by simp) hg1 (by omega)
 have hs : w.heap.size < w1.heap.size := by have := hg1.size; simp at this; omega
 have hg := ak (World.grownBy_alloc w _ (some b)) hg1
 have HS1 := yz hS1
 clear hS1 hg1
 go_wp2_with fail
 refine (lT b _ (yy HS1)).mono ?_
 rintro e w2 ⟨y, rfl, hS2, hg2⟩
 replace vr := vr.grown hg2 (by omega)
 replace fr := fr.grown hs hg2 (by omega)
 replace hs : w.heap.size < w2.heap.size := by have := hg2.size; omega
 replace hg := ak hg hg2
 have HS2 := yz hS2
 clear hS2 hg2 HS1
 go_wp2_with fail
 refine (lT b _ (yy HS2)).mono ?_
 rintro e w3 ⟨z, rfl, hS3, hg3⟩
 replace vr := vr.grown hg3 (by omega)
 replace fr := fr.grown hs hg3 (by omega)
 replace hg := ak hg hg3
 have HS3 := yz hS3
 have HG := yz hg
 clear hS3 hg3 HS2 hg
 obtain ⟨r0, r1, r2⟩ := vr
 obtain ⟨f0, f1, f2⟩ := fr
 go_wp2_with fail
 exact bodyPost_ret (v := .agg #[.int .i64 x, .int .i64 y, .int .i64 z]) (by simp [results, Tryz.results61, go_sem, r0, r1, r2]) rfl ⟨x, y, z, rfl, (((yy HS3).set (by simpa using hlt) _).set (by simpa using hlt) _).set (by simpa using hlt) _, az (az (az (yy HG) (Nat.le_refl _) _) (Nat.le_refl _) _) (Nat.le_refl _) _⟩
theorem tX (a : Option Addr) (len cap : Nat) (i : Nat) (most : Int) (w : World) (hl : len ≤ 1048576) (hi : i ≤ 1000) (hm : most ≤ 9223372036854775807) (hR : Row w a len w.heap.size) :
  Calls Tryz.prog 23 #[.slice a len cap, .int .i64 (i : Int), .int .i64 most] w fun e w' => ∃ k : Int, e = .returned (.int .i64 k) ∧ 0 ≤ k ∧ (1 < most → k < most) ∧ (most ≤ 1 → k = 0) ∧ w' = w := by
 by_cases h1 : most ≤ 1
 ·clear hR
  go_enter Tryz.func23, Tryz.ntmps23
  go_wp2
  go_ret
  exact ⟨0, rfl, Int.le_refl _, by omega, fun _ => rfl, rfl⟩
 ·have hm1 : 1 < most := by omega
  rcases hR with rfl | ⟨bx, ox, rfl, hb, hz⟩
  ·go_enter Tryz.func23, Tryz.ntmps23
   go_wp2
   go_ret
   exact ⟨0, rfl, Int.le_refl _, by omega, fun _ => rfl, rfl⟩
  ·by_cases h0 : len = 0
   ·subst h0
    clear hz
    go_enter Tryz.func23, Tryz.ntmps23
    go_wp2
    go_ret
    exact ⟨0, rfl, Int.le_refl _, by omega, fun _ => rfl, rfl⟩
   ·obtain ⟨z, cz, z0, z1⟩ := hz (i % len) (Nat.mod_lt _ (by omega))
    have hlz : ((len : Int) == 0) = false := by simp; omega
    have hlp : (0 : Int) < (len : Int) := by omega
    obtain ⟨j, hj⟩ : ∃ j : Nat, (i : Int) % (len : Int) = (j : Int) := ⟨i % len, by simp⟩
    have hj2 : i % len = j := by omega
    rw [hj2] at cz
    have hjl : (j : Int) < (len : Int) := by have := Nat.mod_lt i (show 0 < len by omega); omega
    clear hz h0 hj2
    go_enter Tryz.func23, Tryz.ntmps23
    go_wp2
    go_ret
    have e0 : 0 ≤ z % most := Int.emod_nonneg _ (by omega)
    have e1 : z % most < most := Int.emod_lt_of_pos _ (by omega)
    exact ⟨z % most, rfl, e0, by first | exact e1 | exact fun _ => e1, by intro h; omega, rfl⟩
end
section
open Go.RowKit Go.Deep Go.ChangeShapes
def hZ : List (String × DataW Unit) := [("loop.example/g00577/impl.errNoSky", Rows.laid_loop_example_g00577_impl_errNoSky)]
theorem qe : "*" ++ "errors.errorString" = "*errors.errorString" := by decide
theorem rowE (u : TypeId) (h : Tryz.prog.typeName? 3 u = some "*errors.errorString") : u = 175 :=
 typeName_ptr_named (nm := "errors.errorString") (by rw [qe]; kernel_rfl) (by kernel_rfl) (by decide) u (by rw [qe]; exact h)
theorem iZ : Tryz.prog.globalNamed "loop.example/g00577/impl.errNoSky" = some 0 := by kernel_rfl
theorem rB : (Tryz.prog.globals[0]?).map (·.type) = some 108 := by kernel_rfl
theorem le {W : World} (h : laidMetH Tryz.prog hZ W) : ∃ p, W.var? Tryz.prog "loop.example/g00577/impl.errNoSky" = some #[.iface 175 (.pointer (some p))] := by
 have h' : laidMet Tryz.prog hZ W := h
 obtain ⟨a, s, hv, _⟩ := laid_sentinel h' iZ rB Tryz.underlying108 rowE Tryz.underlying175 Tryz.underlying201 rfl rfl Tryz.underlying9 (by kernel_rfl) (by kernel_rfl)
 exact ⟨a, hv⟩
theorem iA {W : World} {p : Addr} (hv : W.var? Tryz.prog "loop.example/g00577/impl.errNoSky" = some #[.iface 175 (.pointer (some p))]) : bj p W := by
 unfold bj
 rw [World.var?_cell iZ hv 0]
 rfl
theorem po {H : Type} (enc : TypeId × Value → H) {W : World} {p : Addr} (hv : W.var? Tryz.prog "loop.example/g00577/impl.errNoSky" = some #[.iface 175 (.pointer (some p))]) (sp : Nat → Bool) :
  DataW.TrodVars enc Tryz.prog W sp ["loop.example/g00577/impl.errNoSky"] [tok enc (.iface 175 (.pointer (some p)))] [.cell 0 0] :=
 vars_read1 enc iZ rB Tryz.underlying108 hv trivial sp
theorem tF (os : Os) (args : Array Value) : laidMetH Tryz.prog hZ ((World.doorLaid Tryz.prog 400 os).forCall (fun _ _ => 0) ⟨#[], args, []⟩).memory :=
 laidMet_of_run' 8 (by kernel_rfl) (by kernel_rfl)
end
end Go.Proofs.YtgiodlllokdcdaaGreatDoor
