/- What the law on numbers draws: a number within int64; a text that is short, or one that is too long. -/
import Derived.Test.YtcoibamfgcdbnaaDoorZeros
namespace Go.Proofs.YtcoibamfgcdbnaaDoor
open Go.RowKit
set_option linter.unusedVariables false

set_option maxRecDepth 100000 in
set_option maxHeartbeats 1000000 in
theorem l01Any_any (b : Nat) (w : World) (hS : SrcAt b w) :
    Calls Tryd.prog 13 #[.pointer (some ⟨b, 0, none⟩)] w fun e w' => ∃ v : Int, e = .returned (.int .i64 v) ∧ -9223372036854775808 ≤ v ∧ v ≤ 9223372036854775807 ∧ SrcAt b w' ∧ w.grownBy w' (some b) := by
  have HS := hide hS
  clear hS
  go_enter Tryd.func13, Tryd.ntmps13
  go_wp2_with fail
  refine (one_any b 4 _ (unhide HS) (by omega)).mono ?_
  rintro e w1 ⟨y, rfl, hS1, hg1⟩
  have HS1 := hide hS1
  have HG1 := hide hg1
  clear hS1 hg1
  cases y
  · go_wp2_with fail
    refine (n_any b 1099511627776 _ (unhide HS1) (by omega)).mono ?_
    rintro e w2 ⟨k, rfl, k0, k1, k2, hS2, hg2⟩
    have hk : k < 1099511627776 := k1 (by omega)
    have HS2 := hide hS2
    have HG2 := hide hg2
    clear k1 k2 hS2 hg2
    go_wp2
    go_ret
    refine ⟨_, rfl, ?_, ?_, unhide HS2, grown_trans (unhide HG1) (unhide HG2)⟩ <;> omega
  · go_wp2_with fail
    refine (edge_any b _ (unhide HS1)).mono ?_
    rintro e w2 ⟨v, rfl, v0, v1, hS2, hg2⟩
    have HS2 := hide hS2
    have HG2 := hide hg2
    clear hS2 hg2
    go_wp2
    go_ret
    exact ⟨_, rfl, v0, v1, unhide HS2, grown_trans (unhide HG1) (unhide HG2)⟩

set_option maxHeartbeats 1000000 in
theorem drawPutNum_any (a : Option Addr) (len cap : Nat) (w : World) (hl : len ≤ 1048576) (hR : Row w a len w.heap.size) :
    Calls Tryd.prog 4 #[.slice a len cap] w fun e w' => ∃ v : Int, e = .returned (.int .i64 v) ∧ -9223372036854775808 ≤ v ∧ v ≤ 9223372036854775807 ∧ Below w.heap.size w w' := by
  have HR := hide hR
  clear hR
  go_enter Tryd.func4, Tryd.ntmps4
  go_wp2_with fail
  refine (source_any a len cap w hl (unhide HR)).mono ?_
  rintro e w1 ⟨rfl, hS1, hB1⟩
  have HS1 := hide hS1
  clear hS1
  go_wp2_with fail
  refine (l01Any_any w.heap.size _ (unhide HS1)).mono ?_
  rintro e w2 ⟨v, rfl, v0, v1, hS2, hg2⟩
  have hB2 : Below w.heap.size w w2 := hB1.grown hg2 hB1.size (fun k e => by have := Option.some.inj e; omega)
  clear hS2 hg2 hB1
  go_wp2
  go_ret
  exact ⟨v, rfl, v0, v1, hB2⟩

set_option maxHeartbeats 1000000 in
theorem drawPutText_any (a : Option Addr) (len cap : Nat) (w : World) (hl : len ≤ 1048576) (hR : Row w a len w.heap.size) :
    Calls Tryd.prog 8 #[.slice a len cap] w fun e w' => ∃ t : ByteArray, e = .returned (.string t) ∧ (t.size ≤ 20 ∨ (19995 ≤ t.size ∧ t.size ≤ 20010)) ∧ Below w.heap.size w w' := by
  have HR := hide hR
  clear hR
  go_enter Tryd.func8, Tryd.ntmps8
  go_wp2_with fail
  refine (source_any a len cap w hl (unhide HR)).mono ?_
  rintro e w1 ⟨rfl, hS1, hB1⟩
  have HS1 := hide hS1
  clear hS1
  go_wp2_with fail
  refine (one_any w.heap.size 8 _ (unhide HS1) (by omega)).mono ?_
  rintro e w2 ⟨y, rfl, hS2, hg2⟩
  have hB2 : Below w.heap.size w w2 := hB1.grown hg2 hB1.size (fun k e => by have := Option.some.inj e; omega)
  have HS2 := hide hS2
  clear hS2 hg2 hB1
  cases y
  · go_wp2_with fail
    refine (n_any w.heap.size 20 _ (unhide HS2) (by omega)).mono ?_
    rintro e w3 ⟨k, rfl, k0, k1, k2, hS3, hg3⟩
    have hB3 : Below w.heap.size w w3 := hB2.grown hg3 hB2.size (fun k e => by have := Option.some.inj e; omega)
    have hk20 : k < 20 := k1 (by omega)
    have HS3 := hide hS3
    clear hS3 hg3 hB2 k1 k2
    obtain ⟨n, rfl⟩ : ∃ n : Nat, k = (n : Int) := ⟨k.toNat, by omega⟩
    go_wp2_with fail
    refine (bytes_any w.heap.size n _ (unhide HS3) (by omega)).mono ?_
    rintro e w4 ⟨t, rfl, ht, hS4, hg4⟩
    have hB4 : Below w.heap.size w w4 := hB3.grown hg4 hB3.size (fun k e => by have := Option.some.inj e; omega)
    have HT := hide ht
    clear ht hS4 hg4 hB3
    go_wp2
    go_ret
    exact ⟨t, rfl, .inl (by rw [unhide HT]; omega), hB4⟩
  · go_wp2_with fail
    refine (n_any w.heap.size 3 _ (unhide HS2) (by omega)).mono ?_
    rintro e w3 ⟨k, rfl, k0, k1, k2, hS3, hg3⟩
    have hB3 : Below w.heap.size w w3 := hB2.grown hg3 hB2.size (fun k e => by have := Option.some.inj e; omega)
    have hk3 : k < 3 := k1 (by omega)
    clear hS3 hg3 hB2 k1 k2
    obtain ⟨n, rfl⟩ : ∃ n : Nat, k = (n : Int) := ⟨k.toNat, by omega⟩
    obtain ⟨M, hMs, hMl, hmk0⟩ := mkZeros (19999 + n) (by omega)
    have hmk : ∀ W : World, (Instr.makeSlice 22 (.int .i64 (19999 + (n : Int))) (.int .i64 (19999 + (n : Int)))).run Tryd.prog W = .ok (.slice (some ⟨W.heap.size, 0, none⟩) (19999 + n) (19999 + n)) (W.alloc (.cells M 5)) := fun W => by have := hmk0 W; simpa using this
    have hcv := convAll w3 5 M (List.replicate (19999 + n) 0) (19999 + n) (19999 + n) (by simp) hMl
    have HL := hide (strOfNums_size (List.replicate (19999 + n) (0 : Int)))
    generalize strOfNums (List.replicate (19999 + n) (0 : Int)) = t at *
    clear hmk0 hMl hMs
    go_wp2
    go_ret
    exact ⟨t, rfl, .inr (by rw [unhide HL]; simp; omega), hB3.alloc hB3.size _⟩
end Go.Proofs.YtcoibamfgcdbnaaDoor
