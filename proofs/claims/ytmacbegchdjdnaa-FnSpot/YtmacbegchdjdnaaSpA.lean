/- SpotOf: whether a blob is weighed, a focal may be; the specification's and the program's. -/
import Derived.Test.YtmacbegchdjdnaaFrB
import Derived.Test.YtmacbegchdjdnaaVecG
import Derived.Test.YtmacbegchdjdnaaFrC
namespace Go.Proofs.Ytmacbegchdjdnaa
open Go.RowKit Go.Sort
set_option linter.unusedVariables false

def weighB (su sx sy : Int) : Bool := decide (1 ≤ su ∧ su ≤ 10000 ∧ 0 ≤ sx ∧ sx ≤ 15 * su ∧ 0 ≤ sy ∧ sy ≤ 11 * su)
def focB (fo : Int) : Bool := decide (1 ≤ fo ∧ fo ≤ 40)
theorem weighB_no {su sx sy : Int} (h : su < 1 ∨ 10000 < su ∨ sx < 0 ∨ 15 * su < sx ∨ sy < 0 ∨ 11 * su < sy) : weighB su sx sy = false := by
  unfold weighB
  exact decide_eq_false (by omega)
def spX (sx wd su : Int) : Int := 2 * sx - (wd - 1) * su
def spZ (fo su : Int) : Int := 2 * fo * su
def spOk (su sx sy wd ht : Int) (s : ByteArray) (fo : Int) : Bool := weighB su sx sy && frameB wd ht s && focB fo
def spI (ok : Bool) (x y z c : Int) : Int := if ok then prI true (gI x y z) c else 0
def spV (su sx sy wd ht : Int) (s : ByteArray) (fo : Int) : Value :=
  .agg #[.int .i64 (spI (spOk su sx sy wd ht s fo) (spX sx wd su) (spX sy ht su) (spZ fo su) (spX sx wd su)), .int .i64 (spI (spOk su sx sy wd ht s fo) (spX sx wd su) (spX sy ht su) (spZ fo su) (spX sy ht su)), .int .i64 (spI (spOk su sx sy wd ht s fo) (spX sx wd su) (spX sy ht su) (spZ fo su) (spZ fo su))]
theorem spV_no {su sx sy wd ht fo : Int} {s : ByteArray} (h : spOk su sx sy wd ht s fo = false) : spV su sx sy wd ht s fo = .agg #[.int .i64 0, .int .i64 0, .int .i64 0] := by unfold spV spI; rw [h]; rfl
theorem sp_bounds {su sx sy wd ht fo : Int} {s : ByteArray} (h : spOk su sx sy wd ht s fo = true) :
    (1 ≤ su ∧ su ≤ 10000 ∧ 0 ≤ sx ∧ sx ≤ 15 * su ∧ 0 ≤ sy ∧ sy ≤ 11 * su) ∧ (1 ≤ wd ∧ wd ≤ 16 ∧ 1 ≤ ht ∧ ht ≤ 12) ∧ (1 ≤ fo ∧ fo ≤ 40) ∧ (0 ≤ (wd - 1) * su ∧ (wd - 1) * su ≤ 150000) ∧ (0 ≤ (ht - 1) * su ∧ (ht - 1) * su ≤ 110000) ∧ (2 ≤ 2 * fo * su ∧ 2 * fo * su ≤ 800000) := by
  unfold spOk at h
  rw [Bool.and_eq_true, Bool.and_eq_true] at h
  obtain ⟨⟨h1, h2⟩, h3⟩ := h
  have a := of_decide_eq_true h1
  have b := frameB_iff.1 h2
  have c := of_decide_eq_true h3
  have m1 := Int.mul_le_mul (show wd - 1 ≤ 15 by omega) a.2.1 (by omega) (by omega)
  have m2 := Int.mul_le_mul (show ht - 1 ≤ 11 by omega) a.2.1 (by omega) (by omega)
  have m3 := Int.mul_le_mul (show 2 * fo ≤ 80 by omega) a.2.1 (by omega) (by omega)
  have m4 := Int.mul_le_mul (show 2 ≤ 2 * fo by omega) a.1 (by omega) (by omega)
  have n1 := Int.mul_nonneg (show 0 ≤ wd - 1 by omega) (show 0 ≤ su by omega)
  have n2 := Int.mul_nonneg (show 0 ≤ ht - 1 by omega) (show 0 ≤ su by omega)
  exact ⟨a, ⟨b.1, b.2.1, b.2.2.1, b.2.2.2.1⟩, c, ⟨n1, by omega⟩, ⟨n2, by omega⟩, ⟨by omega, by omega⟩⟩
theorem sp_right {su sx sy wd ht fo : Int} {s : ByteArray} (h : spOk su sx sy wd ht s fo = true) : rightB (spX sx wd su) (spX sy ht su) (spZ fo su) = true := by
  obtain ⟨a, b, c, d, e, f⟩ := sp_bounds h
  unfold spX spZ
  generalize (wd - 1) * su = p at *
  generalize (ht - 1) * su = q at *
  generalize 2 * fo * su = r at *
  rw [rightB_iff]
  refine ⟨⟨?_, ?_, ?_⟩, ?_⟩ <;> omega
theorem spV_yes {su sx sy wd ht fo : Int} {s : ByteArray} (h : spOk su sx sy wd ht s fo = true) : spV su sx sy wd ht s fo = .agg #[.int .i64 (prI true (gI (spX sx wd su) (spX sy ht su) (spZ fo su)) (spX sx wd su)), .int .i64 (prI true (gI (spX sx wd su) (spX sy ht su) (spZ fo su)) (spX sy ht su)), .int .i64 (prI true (gI (spX sx wd su) (spX sy ht su) (spZ fo su)) (spZ fo su))] := by
  unfold spV spI; rw [h]; rfl

set_option maxRecDepth 100000 in
theorem isFocal_any (fo : Int) (w : World) : Calls Try.prog 40 #[.int .i64 fo] w fun e w' => e = .returned (.bool (focB fo)) ∧ w' = w := by
  by_cases h : 1 ≤ fo
  · go_enter Try.func40, Try.ntmps40
    go_wp2_with fail
    go_ret
    exact ⟨by unfold focB; simp [h], rfl⟩
  · go_enter Try.func40, Try.ntmps40
    go_wp2_with fail
    go_ret
    exact ⟨by rw [show focB fo = false from decide_eq_false (by omega)]; rfl, rfl⟩
set_option maxRecDepth 100000 in
theorem isWeighed_any (ar su sx sy : Int) (ed : Bool) (w : World) :
    Calls Try.prog 39 #[.agg #[.int .i64 ar, .int .i64 su, .int .i64 sx, .int .i64 sy, .bool ed]] w fun e w' => e = .returned (.bool (weighB su sx sy)) ∧ Below w.heap.size w w' := by
  by_cases h1 : 1 ≤ su
  case neg =>
    go_enter Try.func39, Try.ntmps39
    go_wp2_with fail
    go_ret
    exact ⟨by rw [weighB_no (by omega)]; rfl, below1 _ _⟩
  by_cases h2 : su ≤ 10000
  case neg =>
    go_enter Try.func39, Try.ntmps39
    go_wp2_with fail
    go_ret
    exact ⟨by rw [weighB_no (by omega)]; rfl, below1 _ _⟩
  by_cases h3 : 0 ≤ sx
  case neg =>
    go_enter Try.func39, Try.ntmps39
    go_wp2_with fail
    go_ret
    exact ⟨by rw [weighB_no (by omega)]; rfl, below1 _ _⟩
  by_cases h4 : sx ≤ 15 * su
  case neg =>
    go_enter Try.func39, Try.ntmps39
    go_wp2_with fail
    go_ret
    exact ⟨by rw [weighB_no (by omega)]; rfl, below1 _ _⟩
  by_cases h5 : 0 ≤ sy
  case neg =>
    go_enter Try.func39, Try.ntmps39
    go_wp2_with fail
    go_ret
    exact ⟨by rw [weighB_no (by omega)]; rfl, below1 _ _⟩
  have HW : Hid (weighB su sx sy = decide (sy ≤ 11 * su)) := hide (by unfold weighB; simp [h1, h2, h3, h4, h5])
  go_enter Try.func39, Try.ntmps39
  go_wp2_with fail
  go_ret
  exact ⟨by rw [unhide HW]; rfl, below1 _ _⟩
set_option maxHeartbeats 1000000 in
set_option maxRecDepth 100000 in
theorem l05Spot_any (ar su sx sy : Int) (ed : Bool) (wd ht : Int) (s : ByteArray) (fo : Int) (w : World) (h : spOk su sx sy wd ht s fo = true) :
    Calls Try.prog 43 #[.agg #[.int .i64 ar, .int .i64 su, .int .i64 sx, .int .i64 sy, .bool ed], .agg #[.int .i64 wd, .int .i64 ht, .string s], .int .i64 fo] w fun e w' => e = .returned (.agg #[.int .i64 (spX sx wd su), .int .i64 (spX sy ht su), .int .i64 (spZ fo su)]) ∧ Below w.heap.size w w' := by
  obtain ⟨⟨a1, a2, a3, a4, a5, a6⟩, ⟨b1, b2, b3, b4⟩, ⟨c1, c2⟩, ⟨d1, d2⟩, ⟨e1, e2⟩, ⟨f1, f2⟩⟩ := sp_bounds h
  unfold spX spZ
  have m1 : wrap64 ((wd - 1) * su) = (wd - 1) * su := wrap_id (by omega) (by omega)
  have m2 : wrap64 ((ht - 1) * su) = (ht - 1) * su := wrap_id (by omega) (by omega)
  have m3 : wrap64 (2 * fo * su) = 2 * fo * su := wrap_id (by omega) (by omega)
  clear h
  go_enter Try.func43, Try.ntmps43
  go_wp2_with fail
  exact bodyPost_ret (v := .agg #[.int .i64 (2 * sx - (wd - 1) * su), .int .i64 (2 * sy - (ht - 1) * su), .int .i64 (2 * fo * su)]) (by simp [results, Try.results43, go_sem]) rfl ⟨rfl, below3 _ _ _ _⟩
end Go.Proofs.Ytmacbegchdjdnaa
