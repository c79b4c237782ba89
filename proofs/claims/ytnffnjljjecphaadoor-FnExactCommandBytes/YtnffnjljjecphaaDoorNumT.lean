/- Numbers one behind the other: the program's numbersText. -/
import Derived.Test.YtnffnjljjecphaaDoorVecA
import Derived.Lib.QuietBelow
import Derived.Test.YtnffnjljjecphaaDoorPutNum
import Derived.Test.YtnffnjljjecphaaDoorJoin
import Derived.Test.YtnffnjljjecphaaDoorSeal
namespace Go.Proofs.YtnffnjljjecphaaDoor
open Go.RowKit Go.Sort
set_option linter.unusedVariables false

/-- the first k numbers, one behind the other -/
def numsTo (ids : List Int) : Nat → ByteArray
  | 0 => ⟨#[]⟩
  | k + 1 => numsTo ids k ++ numS (ids.getD k 0)
theorem numsTo_size (ids : List Int) (k : Nat) : (numsTo ids k).size ≤ 10 * k := by
  induction k with
  | zero => exact Nat.le_refl _
  | succ k ih =>
    have := (numS_size (ids.getD k 0)).2
    unfold numsTo
    rw [ByteArray.size_append]
    omega
/-- the numbers lie at a -/
def NumL (w : World) (a : Option Addr) (ids : List Int) : Prop := ∃ b, a = some ⟨b, 0, none⟩ ∧ b < w.heap.size ∧ ∀ i, i < ids.length → w.cell? ⟨b, i, none⟩ = some (.int .i64 (ids.getD i 0))
def okI (x : Int) : Prop := -9223372036854775808 ≤ x ∧ x ≤ 9223372036854775807

set_option maxHeartbeats 1000000 in
set_option maxRecDepth 100000 in
theorem numbersText_any (ids : List Int) (a : Option Addr) (c : Nat) (w : World) (hl : ids.length ≤ 100) (hb : ∀ i, i < ids.length → okI (ids.getD i 0)) (hI : NumL w a ids) :
    Calls Tryd.prog 60 #[.slice a ids.length c] w fun e w' => e = .returned (.string (numsTo ids ids.length)) ∧ Below w.heap.size w w' := by
  obtain ⟨b, rfl, hlt, hc⟩ := hI
  have HC := hide hc
  have HK := hide hb
  clear hc hb
  generalize ids.length = n at *
  go_enter Tryd.func60, Tryd.ntmps60
  go_wp2_with fail
  go_loopw [3, 8] (fun t i wr => ∃ k : Nat, k ≤ n ∧ i = .int .i64 k ∧ t = .string (numsTo ids k) ∧ Hid (Below w.heap.size w wr)) (fun _ i _ => n - (intOf i).toNat)
  case atStart => exact ⟨0, by omega, rfl, rfl, hide (Below.refl _ _)⟩
  case round =>
    obtain ⟨k, hk, rfl, rfl, HB⟩ := hrel
    by_cases hkn : k < n
    · have c0 : wr.cell? ⟨b, k, none⟩ = some (.int .i64 (ids.getD k 0)) := by rw [(unhide HB).cell (p := ⟨b, k, none⟩) hlt]; exact unhide HC k hkn
      have hok := unhide HK k hkn
      have hkn2 : (k : Int) < (n : Int) := by omega
      have HE : Hid (numsTo ids (k + 1) = numsTo ids k ++ numS (ids.getD k 0)) := hide rfl
      have z0 := numsTo_size ids k
      have z1 := (numS_size (ids.getD k 0)).2
      generalize ids.getD k 0 = x at *
      generalize numsTo ids k = t at *
      go_wp2_with fail
      refine (implPutNum_any x _ hok.1 hok.2).mono ?_
      rintro e w1 ⟨rfl, hx⟩
      have HB1 := hide (below_call (unhide HB) hx)
      clear hx HB c0
      go_wp2_with fail
      refine (joinTexts_any _ _ _ (by omega) (by omega)).mono ?_
      rintro e w2 ⟨rfl, hx⟩
      have HB2 := hide (below_call (unhide HB1) hx)
      clear hx HB1
      rw [← unhide HE]
      go_wp2_with fail
      go_roundw
      case rel => exact ⟨k + 1, by omega, by go_num, rfl, HB2⟩
      case measure => simp [intOf]; omega
    · have hkn' : k = n := by omega
      subst hkn'
      go_wp2_with fail
      go_ret
      exact ⟨rfl, unhide HB⟩
theorem numL_new (w : World) (xs : List Int) (t : TypeId) : NumL (w.alloc (.cells (xs.map (fun z => Value.int .i64 z)).toArray t)) (some ⟨w.heap.size, 0, none⟩) xs := by
  refine ⟨_, rfl, by simp, fun i hi => ?_⟩
  rw [cell_of_row _ _ i _ _ _ (heap_alloc_new w _)]
  rw [List.getElem?_toArray, List.getElem?_map, List.getElem?_eq_getElem hi, List.getD_eq_getElem?_getD, List.getElem?_eq_getElem hi]
  rfl

end Go.Proofs.YtnffnjljjecphaaDoor
