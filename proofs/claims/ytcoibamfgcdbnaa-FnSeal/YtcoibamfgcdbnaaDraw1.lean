/- What the laws on sealing draw: a text that is short, or one that is too long; a CRC or a number at some limit, and a short text; a number below another. -/
import Derived.Test.YtcoibamfgcdbnaaSrc3
import Derived.Test.YtcoibamfgcdbnaaCrcWalks
namespace Go.Proofs.Ytcoibamfgcdbnaa
open Go.RowKit
set_option linter.unusedVariables false

theorem mkZeros (n : Nat) (h : n ≤ 281474976710656) : ∃ M : Array Value, M.size = n ∧ M.toList = (List.replicate n (0 : Int)).map (Value.int .u8) ∧ ∀ W : World, (Instr.makeSlice 22 (.int .i64 (n : Int)) (.int .i64 (n : Int))).run Try.prog W = .ok (.slice (some ⟨W.heap.size, 0, none⟩) n n) (W.alloc (.cells M 5)) := by
  obtain ⟨i0, hi, hz0, hz1, hz2⟩ := infoByte
  refine ⟨madeCells (Value.int .u8 0).cells (((n : Nat) : Int).toNat * i0.size), by rw [size_madeCells, hz1]; simp, ?_, fun W => ?_⟩
  · rw [hz1]
    simp only [madeCells, Int.toNat_natCast, Nat.mul_one, Array.toList_map, List.map_replicate]
    apply List.ext_getElem
    · simp
    · intro i h1 h2
      simp [Value.cells, Nat.mod_one]
  · have h := run_make (P := Try.prog) W 22 5 i0 (.int .u8 0) Try.underlying22 hi hz0 .i64 .i64 (n : Int) (n : Int) (by omega) (by omega) (by rw [hz2]; omega) (by omega)
    simpa using h
theorem convAll (w : World) (T : TypeId) (Y : Array Value) (xs : List Int) (n cap : Nat) (hn : xs.length = n) (hY : Y.toList = xs.map (Value.int .u8)) :
    (convert 22 9 (.slice (some ⟨w.heap.size, 0, none⟩) n cap)).run Try.prog (w.alloc (.cells Y T)) = .ok (.string (strOfNums xs)) (w.alloc (.cells Y T)) := by
  refine run_convert_bytes_arg (P := Try.prog) _ 22 5 Try.underlying22 Try.underlying5 w.heap.size 0 n cap xs hn ?_ 9 Try.underlying9
  intro i hi
  have hl : Y[i]? = some (.int .u8 (xs.getD i 0)) := by
    rw [← Array.getElem?_toList, hY, List.getElem?_map, List.getD, List.getElem?_eq_getElem (by omega)]; rfl
  simp [hl]

set_option maxHeartbeats 1000000 in
theorem drawSeal_any (a : Option Addr) (len cap : Nat) (w : World) (hl : len ≤ 1048576) (hR : Row w a len w.heap.size) :
    Calls Try.prog 4 #[.slice a len cap] w fun e w' => ∃ t : ByteArray, e = .returned (.string t) ∧ (t.size ≤ 20 ∨ (19995 ≤ t.size ∧ t.size ≤ 20000)) ∧ Below w.heap.size w w' := by
  have HR := hide hR
  clear hR
  go_enter Try.func4, Try.ntmps4
  go_wp2_with fail
  refine (source_any a len cap w hl (unhide HR)).mono ?_
  rintro e w1 ⟨rfl, hS1, hB1⟩
  have HS1 := hide hS1
  clear hS1
  go_wp2_with fail
  refine (one_any w.heap.size 30 _ (unhide HS1) (by omega)).mono ?_
  rintro e w2 ⟨y, rfl, hS2, hg2⟩
  have hB2 : Below w.heap.size w w2 := hB1.grown hg2 hB1.size (fun k e => by have := Option.some.inj e; omega)
  have HS2 := hide hS2
  clear hS2 hg2 hB1
  cases y
  · go_wp2_with fail
    refine (n_any w.heap.size 20 _ (unhide HS2) (by omega)).mono ?_
    rintro e w3 ⟨k, rfl, k0, k1, k2, hS3, hg3⟩
    have hB3 : Below w.heap.size w w3 := hB2.grown hg3 hB2.size (fun k e => by have := Option.some.inj e; omega)
    have hk20 : k < 20 := k1 (by omega)
    have HS3 := hide hS3
    clear hS3 hg3 hB2 k1 k2
    obtain ⟨n, rfl⟩ : ∃ n : Nat, k = (n : Int) := ⟨k.toNat, by omega⟩
    go_wp2_with fail
    refine (bytes_any w.heap.size n _ (unhide HS3) (by omega)).mono ?_
    rintro e w4 ⟨t, rfl, ht, hS4, hg4⟩
    have hB4 : Below w.heap.size w w4 := hB3.grown hg4 hB3.size (fun k e => by have := Option.some.inj e; omega)
    have HT := hide ht
    clear ht hS4 hg4 hB3
    go_wp2
    go_ret
    exact ⟨t, rfl, .inl (by rw [unhide HT]; omega), hB4⟩
  · go_wp2_with fail
    refine (n_any w.heap.size 3 _ (unhide HS2) (by omega)).mono ?_
    rintro e w3 ⟨k, rfl, k0, k1, k2, hS3, hg3⟩
    have hB3 : Below w.heap.size w w3 := hB2.grown hg3 hB2.size (fun k e => by have := Option.some.inj e; omega)
    have hk3 : k < 3 := k1 (by omega)
    clear hS3 hg3 hB2 k1 k2
    obtain ⟨n, rfl⟩ : ∃ n : Nat, k = (n : Int) := ⟨k.toNat, by omega⟩
    obtain ⟨M, hMs, hMl, hmk0⟩ := mkZeros (19995 + n) (by omega)
    have hmk : ∀ W : World, (Instr.makeSlice 22 (.int .i64 (19995 + (n : Int))) (.int .i64 (19995 + (n : Int)))).run Try.prog W = .ok (.slice (some ⟨W.heap.size, 0, none⟩) (19995 + n) (19995 + n)) (W.alloc (.cells M 5)) := fun W => by have := hmk0 W; simpa using this
    have hcv := convAll w3 5 M (List.replicate (19995 + n) 0) (19995 + n) (19995 + n) (by simp) hMl
    have HL := hide (strOfNums_size (List.replicate (19995 + n) (0 : Int)))
    generalize strOfNums (List.replicate (19995 + n) (0 : Int)) = t at *
    clear hmk0 hMl hMs
    go_wp2
    go_ret
    exact ⟨t, rfl, .inr (by rw [unhide HL]; simp; omega), hB3.alloc hB3.size _⟩

set_option maxHeartbeats 1000000 in
theorem drawCrcMore_any (a : Option Addr) (len cap : Nat) (w : World) (hl : len ≤ 1048576) (hR : Row w a len w.heap.size) :
    Calls Try.prog 9 #[.slice a len cap] w fun e w' => ∃ (c : Int) (t : ByteArray), e = .returned (.tuple #[.int .i64 c, .string t]) ∧ t.size ≤ 10 ∧ -9223372036854775808 ≤ c ∧ c ≤ 9223372036854775807 ∧ Below w.heap.size w w' := by
  have HR := hide hR
  clear hR
  go_enter Try.func9, Try.ntmps9
  go_wp2_with fail
  refine (source_any a len cap w hl (unhide HR)).mono ?_
  rintro e w1 ⟨rfl, hS1, hB1⟩
  have HS1 := hide hS1
  clear hS1
  go_wp2_with fail
  refine (n_any w.heap.size 9 _ (unhide HS1) (by omega)).mono ?_
  rintro e w2 ⟨k, rfl, k0, k1, k2, hS2, hg2⟩
  have hB2 : Below w.heap.size w w2 := hB1.grown hg2 hB1.size (fun k e => by have := Option.some.inj e; omega)
  have hk9 : k < 9 := k1 (by omega)
  have HS2 := hide hS2
  clear hS2 hg2 hB1 k1 k2
  obtain ⟨n, rfl⟩ : ∃ n : Nat, k = (n : Int) := ⟨k.toNat, by omega⟩
  go_wp2_with fail
  refine (bytes_any w.heap.size n _ (unhide HS2) (by omega)).mono ?_
  rintro e w3 ⟨t, rfl, ht, hS3, hg3⟩
  have hB3 : Below w.heap.size w w3 := hB2.grown hg3 hB2.size (fun k e => by have := Option.some.inj e; omega)
  have HT := hide ht
  have HS3 := hide hS3
  clear ht hS3 hg3 hB2
  go_wp2_with fail
  refine (one_any w.heap.size 5 _ (unhide HS3) (by omega)).mono ?_
  rintro e w4 ⟨y, rfl, hS4, hg4⟩
  have hB4 : Below w.heap.size w w4 := hB3.grown hg4 hB3.size (fun k e => by have := Option.some.inj e; omega)
  have HS4 := hide hS4
  clear hS4 hg4 hB3
  cases y
  · go_wp2_with fail
    refine (n_any w.heap.size 9 _ (unhide HS4) (by omega)).mono ?_
    rintro e w5 ⟨k, rfl, k0, k1, k2, hS5, hg5⟩
    have hB5 : Below w.heap.size w w5 := hB4.grown hg5 hB4.size (fun k e => by have := Option.some.inj e; omega)
    have hk9' : k < 9 := k1 (by omega)
    have HS5 := hide hS5
    clear hS5 hg5 hB4 k1 k2
    obtain ⟨m, rfl⟩ : ∃ m : Nat, k = (m : Int) := ⟨k.toNat, by omega⟩
    go_wp2_with fail
    refine (bytes_any w.heap.size m _ (unhide HS5) (by omega)).mono ?_
    rintro e w6 ⟨t2, rfl, ht2, hS6, hg6⟩
    have hB6 : Below w.heap.size w w6 := hB5.grown hg6 hB5.size (fun k e => by have := Option.some.inj e; omega)
    have hs2 : t2.size ≤ 8 := by omega
    have h8 : ¬ 8000 < t2.size := by omega
    have hcl := crcOf_lt (c := 0) t2 (by omega)
    clear ht2 hS6 hg6 hB5
    go_wp2_with fail
    refine (specCrc_any t2 _ (by omega)).mono ?_
    rintro e w7 ⟨rfl, hw⟩
    obtain rfl := hw.symm
    rw [if_neg h8]
    go_wp2
    go_ret2
    exact ⟨_, t, rfl, by rw [unhide HT]; omega, by omega, by omega, hB6⟩
  · go_wp2_with fail
    refine (edge_any w.heap.size _ (unhide HS4)).mono ?_
    rintro e w5 ⟨v, rfl, v0, v1, hS5, hg5⟩
    have hB5 : Below w.heap.size w w5 := hB4.grown hg5 hB4.size (fun k e => by have := Option.some.inj e; omega)
    clear hS5 hg5 hB4
    go_wp2
    go_ret2
    exact ⟨v, t, rfl, by rw [unhide HT]; omega, v0, v1, hB5⟩

set_option maxHeartbeats 1000000 in
theorem lwAt_any (a : Option Addr) (len cap : Nat) (i : Nat) (most : Int) (w : World) (hl : len ≤ 1048576) (hi : i ≤ 1000) (hm : most ≤ 9223372036854775807) (hR : Row w a len w.heap.size) :
    Calls Try.prog 7 #[.slice a len cap, .int .i64 (i : Int), .int .i64 most] w fun e w' => ∃ k : Int, e = .returned (.int .i64 k) ∧ 0 ≤ k ∧ (1 < most → k < most) ∧ (most ≤ 1 → k = 0) ∧ w' = w := by
  by_cases h1 : most ≤ 1
  · clear hR
    go_enter Try.func7, Try.ntmps7
    go_wp2
    go_ret
    exact ⟨0, rfl, Int.le_refl _, by omega, fun _ => rfl, rfl⟩
  · have hm1 : 1 < most := by omega
    rcases hR with rfl | ⟨bx, ox, rfl, hb, hz⟩
    · go_enter Try.func7, Try.ntmps7
      go_wp2
      go_ret
      exact ⟨0, rfl, Int.le_refl _, by omega, fun _ => rfl, rfl⟩
    · by_cases h0 : len = 0
      · subst h0
        clear hz
        go_enter Try.func7, Try.ntmps7
        go_wp2
        go_ret
        exact ⟨0, rfl, Int.le_refl _, by omega, fun _ => rfl, rfl⟩
      · obtain ⟨z, cz, z0, z1⟩ := hz (i % len) (Nat.mod_lt _ (by omega))
        have hlz : ((len : Int) == 0) = false := by simp; omega
        have hlp : (0 : Int) < (len : Int) := by omega
        obtain ⟨j, hj⟩ : ∃ j : Nat, (i : Int) % (len : Int) = (j : Int) := ⟨i % len, by simp⟩
        have hj2 : i % len = j := by omega
        rw [hj2] at cz
        have hjl : (j : Int) < (len : Int) := by have := Nat.mod_lt i (show 0 < len by omega); omega
        clear hz h0 hj2
        go_enter Try.func7, Try.ntmps7
        go_wp2
        go_ret
        have e0 : 0 ≤ z % most := Int.emod_nonneg _ (by omega)
        have e1 : z % most < most := Int.emod_lt_of_pos _ (by omega)
        exact ⟨z % most, rfl, e0, by first | exact e1 | exact fun _ => e1, by intro h; omega, rfl⟩
end Go.Proofs.Ytcoibamfgcdbnaa
