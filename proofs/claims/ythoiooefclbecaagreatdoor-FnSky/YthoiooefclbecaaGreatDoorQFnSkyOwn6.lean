/- Several texts in one: PutNum. -/
import Derived.Test.YthoiooefclbecaaGreatDoorQFnSkyOwn2
import Derived.Test.YthoiooefclbecaaGreatDoorQFnSkyOwn5
namespace Go.Proofs.YthoiooefclbecaaGreatDoor
set_option linter.unusedVariables false
set_option linter.unusedSimpArgs false
set_option maxRecDepth 100000
set_option maxHeartbeats 8000000
section
open Go.RowKit
theorem so (n : Int) (h0 : -9223372036854775808 ≤ n) (h1 : n < 0) :
  bits .xor .u64 IntKind.u64.max (IntKind.u64.wrap (IntKind.u64.wrap n * 2)) = (bA n : Nat) := by
 have hw : ∀ m : Int, IntKind.u64.wrap m = m % 18446744073709551616 := fun m => by simp [IntKind.wrap, IntKind.bits, IntKind.signed]
 have hm : IntKind.u64.max = 18446744073709551615 := by decide
 have hx : IntKind.u64.wrap (IntKind.u64.wrap n * 2) = ((2 * n + 18446744073709551616).toNat : Nat) := by rw [hw, hw]; omega
 have hb : (2 * n + 18446744073709551616).toNat < 18446744073709551616 := by omega
 have hf : bA n = 18446744073709551615 - (2 * n + 18446744073709551616).toNat := by unfold bA; rw [if_pos h1]; omega
 rw [hm, hx, hf]
 generalize (2 * n + 18446744073709551616).toNat = x at *
 have h := u64_xor_nat 18446744073709551615 x (by omega) hb
 refine Eq.trans h ?_
 congr 1
 have hv : (BitVec.allOnes 64 ^^^ BitVec.ofNat 64 x).toNat = 18446744073709551615 - x := by
  rw [BitVec.allOnes_xor, BitVec.toNat_not, BitVec.toNat_ofNat, Nat.mod_eq_of_lt (by simpa using hb)]
 rw [BitVec.toNat_xor, BitVec.toNat_allOnes, BitVec.toNat_ofNat, Nat.mod_eq_of_lt (by simpa using hb)] at hv
 simpa using hv
theorem mB (n : Int) (w : World) (h0 : -9223372036854775808 ≤ n) (h1 : n ≤ 9223372036854775807) :
  Calls Tryz.prog 110 #[.int .i64 n] w fun e w' => e = .returned (.int .u64 (bA n : Nat)) ∧ w' = w := by
 by_cases h : n < 0
 ·have HF := yz (show ((bA n : Nat) : Int) = 2 * -(n + 1) + 1 by unfold bA; rw [if_pos h]; omega)
  go_enter Tryz.func110, Tryz.ntmps110
  go_wp2
  go_ret
  exact ⟨by rw [yy HF]; rfl, rfl⟩
 ·have HF := yz (show ((bA n : Nat) : Int) = 2 * n by unfold bA; rw [if_neg h]; omega)
  have hn : 0 ≤ n := by omega
  go_enter Tryz.func110, Tryz.ntmps110
  go_wp2
  go_ret
  exact ⟨by rw [yy HF]; rfl, rfl⟩
theorem md (n : Int) (w : World) (h0 : -9223372036854775808 ≤ n) (h1 : n ≤ 9223372036854775807) :
  Calls Tryz.prog 78 #[.int .i64 n] w fun e w' => e = .returned (.int .u64 (bA n : Nat)) ∧ w' = w := by
 by_cases h : n < 0
 ·have HF := yz (so n h0 h)
  go_enter Tryz.func78, Tryz.ntmps78
  go_wp2
  go_ret
  exact ⟨by rw [← yy HF]; rfl, rfl⟩
 ·have HF := yz (show ((bA n : Nat) : Int) = n * 2 by unfold bA; rw [if_neg h]; omega)
  have hn : 0 ≤ n := by omega
  go_enter Tryz.func78, Tryz.ntmps78
  go_wp2
  go_ret
  exact ⟨by rw [yy HF]; rfl, rfl⟩
theorem rR (B k : Nat) (hk : k ≤ 9) (W : World) : (Instr.sliceAt 101 (.pointer (some ⟨B, 0, none⟩)) none (some (.int .i64 ((k : Int) + 1))) none).run Tryz.prog W = .ok (.slice (some ⟨B, 0, none⟩) (k + 1) 10) W := by
 have hl : Tryz.prog.arrayLen 101 = 10 := by kernel_rfl
 have hu : Tryz.prog.underlying 101 = some (.array (Tryz.prog.arrayLen 101) (Tryz.prog.elem 101)) := by kernel_rfl
 have hs : (Go.sizeOf (Tryz.prog.elem 101)).run Tryz.prog W = .ok 1 W := by kernel_rfl
 rw [run_sliceAt_array_h W 101 ⟨B, 0, none⟩ hu .i64 ((k : Int) + 1) (by omega) (by rw [hl]; omega), hs, hl]
 simp [Result.andThen, slicedAt, Addr.add]
theorem qU (w : World) (T : TypeId) (Y : Array Value) (xs : List Int) (n cap : Nat) (hn : xs.length = n) (hY : Y.toList.take n = xs.map (Value.int .u8)) :
  (convert 22 9 (.slice (some ⟨w.heap.size, 0, none⟩) n cap)).run Tryz.prog (w.alloc (.cells Y T)) = .ok (.string (strOfNums xs)) (w.alloc (.cells Y T)) := by
 refine run_convert_bytes_arg (P := Tryz.prog) _ 22 5 Tryz.underlying22 Tryz.underlying5 w.heap.size 0 n cap xs hn ?_ 9 Tryz.underlying9
 intro i hi
 have hl : Y[i]? = some (.int .u8 (xs.getD i 0)) := by
  have h1 : (Y.toList.take n)[i]? = some (.int .u8 (xs.getD i 0)) := by
   rw [hY, List.getElem?_map, List.getD, List.getElem?_eq_getElem (by omega)]; rfl
  rw [List.getElem?_take_of_lt hi, Array.getElem?_toList] at h1
  exact h1
 simp [hl]
theorem oh (C : Array Value) (k : Nat) (v : Value) (h : k < C.size) : (C.setIfInBounds k v).toList.take (k + 1) = C.toList.take k ++ [v] := by
 rw [Array.toList_setIfInBounds, List.take_add_one, List.take_set_of_le (Nat.le_refl _)]
 simp [h]
theorem cb (n : Int) (w : World) (h0 : -9223372036854775808 ≤ n) (h1 : n ≤ 9223372036854775807) :
  Calls Tryz.prog 32 #[.int .i64 n] w fun e w' => e = .returned (.string (ba n)) ∧ Below w.heap.size w w' := by
 have hf := jz n h0 h1
 go_enter Tryz.func32, Tryz.ntmps32
 go_wp2_with (go_at_call 78; refine (md _ _ h0 h1).mono ?_; rintro e w' ⟨rfl, rfl⟩)
 go_loopw [4, 5] (fun t i wr => ∃ (k u : Nat) (pre : List Nat) (C : Array Value), k ≤ 9 ∧ i = .int .i64 k ∧ t = .int .u64 u ∧ u ≤ lim k ∧ pre.length = k ∧ pre ++ enc (9 - k) u = enc 9 (bA n) ∧
   C.size = 10 ∧ C.toList.take k = pre.map (fun b : Nat => Value.int .u8 (b : Int)) ∧ wr = w.alloc (.cells C 101)) (fun _ i _ => 9 - (intOf i).toNat)
 case atStart => exact ⟨0, bA n, [], _, by omega, rfl, rfl, hf, rfl, rfl, rfl, rfl, rfl⟩
 case round =>
  obtain ⟨k, u, pre, C, hk, rfl, rfl, hu, hp, he, hC, ht, rfl⟩ := hrel
  have hul : (u : Int) ≤ 18446744073709551615 := by have := Nat.le_trans hu (rx k); omega
  by_cases hlt : u < 128
  ·have HE := yz he
   have HT := yz ht
   have HP := yz hp
   clear he ht hp hu hf
   obtain ⟨c, hc⟩ : ∃ c, C[k]? = some c := ⟨C[k]'(by omega), by simp [show k < C.size by omega]⟩
   have hsl := rR w.heap.size k hk
   have hcv := qU w 101 (C.setIfInBounds k (.int .u8 (u : Int))) ((enc 9 (bA n)).map fun b : Nat => (b : Int)) (k + 1) 10 (by rw [← yy HE, dB _ _ hlt]; simp [yy HP]) (by rw [oh _ _ _ (by omega), yy HT, ← yy HE, dB _ _ hlt]; simp)
   have HS := yz (show strOfNums ((enc 9 (bA n)).map fun b : Nat => (b : Int)) = ba n from rfl)
   generalize strOfNums ((enc 9 (bA n)).map fun b : Nat => (b : Int)) = S at *
   go_wp2
   go_ret
   exact ⟨by rw [← yy HS]; rfl, (Below.refl _ _).alloc (Nat.le_refl _) _⟩
  ·have hk9 : k < 9 := by
    rcases Nat.lt_or_ge k 9 with h | h
    ·exact h
    ·obtain rfl : k = 9 := by omega
     rw [su] at hu; omega
   have HU := yz (gV hu)
   have HE := yz he
   have HT := yz ht
   have HP := yz hp
   have HO := yz (tz u)
   clear he ht hp hu hf
   obtain ⟨c, hc⟩ : ∃ c, C[k]? = some c := ⟨C[k]'(by omega), by simp [show k < C.size by omega]⟩
   have HN := yz (show (pre ++ [u % 128 + 128]) ++ enc (9 - (k + 1)) (u / 128) = enc 9 (bA n) by rw [← yy HE, show 9 - k = (9 - (k + 1)) + 1 by omega, fm _ _ hlt]; simp)
   have HK := yz (show (C.setIfInBounds k (.int .u8 ((u % 128 + 128 : Nat) : Int))).toList.take (k + 1) = (pre ++ [u % 128 + 128]).map (fun b : Nat => Value.int .u8 (b : Int)) by rw [oh _ _ _ (by omega), yy HT]; simp)
   go_wp2
   go_roundw
   case rel => exact ⟨k + 1, u / 128, pre ++ [u % 128 + 128], C.setIfInBounds k (.int .u8 ((u % 128 + 128 : Nat) : Int)), by omega, by go_num, by go_num, yy HU, by simp [yy HP], yy HN, by simp [hC], yy HK, by rw [yy HO]⟩
   case measure => simp [intOf]; omega
theorem ts : (Tryz.prog.info? 5).map (fun i => (i.zero, i.size, i.bytes)) = some (some (.int .u8 0), 1, 1) := by kernel_rfl
theorem qw {w : World} {base size n : Nat} {e : TypeId} {v : Value} {xs : List Value} (h : w.ownsRow base e size v n xs) (hn : 0 < n) : ∃ g cap, v = .slice (some ⟨g, 0, none⟩) n cap := by
 rcases h.2 with ⟨_, h0⟩ | ⟨g, cap, _, hv, _⟩
 ·omega
 ·exact ⟨g, cap, hv⟩
theorem pY {w : World} {base g n cap : Nat} {xs : List Int} (h : w.ownsRow base 5 1 (.slice (some ⟨g, 0, none⟩) n cap) n (xs.map (Value.int .u8))) :
  (convert 22 9 (.slice (some ⟨g, 0, none⟩) n cap)).run Tryz.prog w = .ok (.string (strOfNums xs)) w := by
 have hl : xs.length = n := by have := h.1; simpa using this
 refine run_convert_bytes_arg (P := Tryz.prog) _ 22 5 Tryz.underlying22 Tryz.underlying5 g 0 n cap xs hl ?_ 9 Tryz.underlying9
 intro i hi
 rw [Nat.zero_add, h.cellAt i (by omega), List.getElem?_map, List.getD, List.getElem?_eq_getElem (by omega)]
 rfl
theorem co (n : Int) (w : World) (h0 : -9223372036854775808 ≤ n) (h1 : n ≤ 9223372036854775807) :
  Calls Tryz.prog 94 #[.int .i64 n] w fun e w' => e = .returned (.string (ba n)) ∧ Below w.heap.size w w' := by
 have hf := jz n h0 h1
 obtain ⟨i0, hi, hz0, hz1, hz2⟩ := info_parts ts
 go_enter Tryz.func94, Tryz.ntmps94
 go_wp2_with (go_at_call 110; refine (mB _ _ h0 h1).mono ?_; rintro e w' ⟨rfl, hw⟩; obtain rfl := hw.symm)
 go_loopw [3, 4] (fun t v wr => ∃ (k u : Nat) (pre : List Nat), k ≤ 9 ∧ t = .int .u64 u ∧ u ≤ lim k ∧ pre.length = k ∧ pre ++ enc (9 - k) u = enc 9 (bA n) ∧
   wr.ownsRow w.heap.size 5 1 v k ((pre.map fun b : Nat => (b : Int)).map (Value.int .u8)) ∧ Below w.heap.size w wr) (fun t _ _ => (intOf t).toNat)
 case atStart => exact ⟨0, bA n, [], by omega, rfl, hf, rfl, rfl, World.ownsRow_lit w #[] 0 (Nat.le_refl _) (by simp [maxLen]) rfl, (Below.refl _ _).alloc (Nat.le_refl _) _⟩
 case round =>
  obtain ⟨k, u, pre, hk, rfl, hu, hp, he, hown, hB⟩ := hrel
  have hul : (u : Int) ≤ 18446744073709551615 := by have := Nat.le_trans hu (rx k); omega
  have hsz := hB.size
  by_cases hlt : u < 128
  ·have HE := yz he
   have HP := yz hp
   clear he hp hu hf
   go_wp2_with (at_builtin; refine wpList_append_own _ rfl _ _ 22 rfl w.heap.size 5 i0 (.int .u8 0) 1 1 Tryz.underlying22 hi hz0 hz1 hz2 rfl (by decide) _ _ _ rfl (hown.alloc _) ⟨wr.heap.size, 0, none⟩ 1 1 [.int .u8 (u : Int)] rfl rfl ?c1 ?c2 ?c3 ?c4 ?c5 ?_)
   case c1 =>
    intro j x hj
    match j, hj with
    | 0, hj => simp at hj; subst hj; simp [Addr.add]
   case c2 => intro x hx; simp at hx; subst hx; rfl
   case c3 => unfold maxLen; omega
   case c4 => omega
   case c5 => simp; omega
   intro v' w1 hown' hgrow _
   have hB1 : Below w.heap.size w w1 := (hB.alloc hsz _).grown hgrow (by simp; omega) (fun j hj => (hown.lt j hj).1)
   have hx : List.map (Value.int IntKind.u8 ∘ fun b : Nat => (b : Int)) pre ++ [Value.int IntKind.u8 (u : Int)] = ((enc 9 (bA n)).map fun b : Nat => (b : Int)).map (Value.int .u8) := by rw [← yy HE, dB _ _ hlt]; simp
   rw [hx] at hown'
   obtain ⟨g, cap, hv⟩ := qw hown' (by omega)
   rw [hv] at hown' ⊢
   have hcv := pY hown'
   have HS := yz (show strOfNums ((enc 9 (bA n)).map fun b : Nat => (b : Int)) = ba n from rfl)
   generalize strOfNums ((enc 9 (bA n)).map fun b : Nat => (b : Int)) = S at *
   clear hx hown hown' hgrow hB hi hz0 hz1 hz2 hv
   go_wp2
   go_ret
   exact ⟨by rw [← yy HS]; rfl, hB1⟩
  ·have hk9 : k < 9 := by
    rcases Nat.lt_or_ge k 9 with h | h
    ·exact h
    ·obtain rfl : k = 9 := by omega
     rw [su] at hu; omega
   have HU := yz (gV hu)
   have HE := yz he
   have HP := yz hp
   clear he hp hu hf
   go_wp2_with (at_builtin; refine wpList_append_own _ rfl _ _ 22 rfl w.heap.size 5 i0 (.int .u8 0) 1 1 Tryz.underlying22 hi hz0 hz1 hz2 rfl (by decide) _ _ _ rfl (hown.alloc _) ⟨wr.heap.size, 0, none⟩ 1 1 [.int .u8 ((u : Int) % 128 + 128)] rfl rfl ?c1 ?c2 ?c3 ?c4 ?c5 ?_)
   case c1 =>
    intro j x hj
    match j, hj with
    | 0, hj => simp at hj; subst hj; simp [Addr.add]
   case c2 => intro x hx; simp at hx; subst hx; rfl
   case c3 => unfold maxLen; omega
   case c4 => omega
   case c5 => simp; omega
   intro v' w1 hown' hgrow _
   have hB1 : Below w.heap.size w w1 := (hB.alloc hsz _).grown hgrow (by simp; omega) (fun j hj => (hown.lt j hj).1)
   have hx : List.map (Value.int IntKind.u8 ∘ fun b : Nat => (b : Int)) pre ++ [Value.int IntKind.u8 ((u : Int) % 128 + 128)] = ((pre ++ [u % 128 + 128]).map fun b : Nat => (b : Int)).map (Value.int .u8) := by simp
   rw [hx] at hown'
   have HN := yz (show (pre ++ [u % 128 + 128]) ++ enc (9 - (k + 1)) (u / 128) = enc 9 (bA n) by rw [← yy HE, show 9 - k = (9 - (k + 1)) + 1 by omega, fm _ _ hlt]; simp)
   have HO := yz hown'
   clear hx hown hown' hgrow hB
   go_wp2
   go_roundw
   case rel => exact ⟨k + 1, u / 128, pre ++ [u % 128 + 128], by omega, by go_num, yy HU, by simp [yy HP], yy HN, yy HO, hB1⟩
   case measure => simp [intOf]; omega
end
end Go.Proofs.YthoiooefclbecaaGreatDoor
