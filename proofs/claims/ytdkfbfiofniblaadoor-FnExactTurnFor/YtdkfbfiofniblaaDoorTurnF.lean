/- Apply: the program's and the specification's. -/
import Derived.Test.YtdkfbfiofniblaaDoorTurnC
import Derived.Test.YtdkfbfiofniblaaDoorVecI
namespace Go.Proofs.YtdkfbfiofniblaaDoor
open Go.RowKit Go.Sort
set_option linter.unusedVariables false

theorem ap_none {a b c d x y z : Int} (h : apR a b c d x y z = false) : Value.agg #[.int .i64 (apI (apR a b c d x y z) (apX a b c d x y z)), .int .i64 (apI (apR a b c d x y z) (apY a b c d x y z)), .int .i64 (apI (apR a b c d x y z) (apZ a b c d x y z))] = Value.agg #[.int .i64 0, .int .i64 0, .int .i64 0] := by
  rw [h]; rfl
theorem ap_some {a b c d x y z : Int} (h : apR a b c d x y z = true) : Value.agg #[.int .i64 (apI (apR a b c d x y z) (apX a b c d x y z)), .int .i64 (apI (apR a b c d x y z) (apY a b c d x y z)), .int .i64 (apI (apR a b c d x y z) (apZ a b c d x y z))] = Value.agg #[.int .i64 (apX a b c d x y z), .int .i64 (apY a b c d x y z), .int .i64 (apZ a b c d x y z)] := by
  rw [h]; rfl
theorem wide_in {x y z : Int} (h : wideB x y z = true) : withinB 1800 x y z = true := by unfold wideB at h; rw [Bool.and_eq_true] at h; exact h.2

set_option maxHeartbeats 1000000 in
set_option maxRecDepth 100000 in
theorem l03Apply_any (a b c d x y z : Int) (w : World) (ht : inT 5 a b c d = true) (hv : withinB 1800 x y z = true) :
    Calls Tryd.prog 77 #[.agg #[.int .i64 a, .int .i64 b, .int .i64 c, .int .i64 d], .agg #[.int .i64 x, .int .i64 y, .int .i64 z]] w fun e w' => e = .returned (.agg #[.int .i64 (apX a b c d x y z), .int .i64 (apY a b c d x y z), .int .i64 (apZ a b c d x y z)]) ∧ Below w.heap.size w w' := by
  have HX := hide (apW_X ht hv)
  have HY := hide (apW_Y ht hv)
  have HZ := hide (apW_Z ht hv)
  clear ht hv
  go_enter Tryd.func77, Tryd.ntmps77
  go_wp2
  rw [unhide HX, unhide HY, unhide HZ]
  exact bodyPost_ret (v := .agg #[.int .i64 (apX a b c d x y z), .int .i64 (apY a b c d x y z), .int .i64 (apZ a b c d x y z)]) (by simp [results, Tryd.results77, go_sem]) rfl ⟨rfl, below3 _ _ _ _⟩

set_option maxHeartbeats 1000000 in
set_option maxRecDepth 100000 in
theorem apply_any (a b c d x y z : Int) (w : World) :
    Calls Tryd.prog 51 #[.agg #[.int .i64 a, .int .i64 b, .int .i64 c, .int .i64 d], .agg #[.int .i64 x, .int .i64 y, .int .i64 z]] w fun e w' => e = .returned (.agg #[.int .i64 (apI (apR a b c d x y z) (apX a b c d x y z)), .int .i64 (apI (apR a b c d x y z) (apY a b c d x y z)), .int .i64 (apI (apR a b c d x y z) (apZ a b c d x y z))]) ∧ Below w.heap.size w w' := by
  go_enter Tryd.func51, Tryd.ntmps51
  go_wp2_with fail
  refine (turnRight_any a b c d _).mono ?_
  rintro e w1 ⟨rfl, hx⟩
  have va : TurnAt w1 w.heap.size a b c d := (((turnAt_new w a b c d _).alloc _).alloc _).kept (by simp; omega) hx
  have vv : VecAt w1 (w.heap.size + 1) x y z := ((by simpa using vecAt_new (w.alloc _) x y z _ : VecAt _ (w.heap.size + 1) x y z).alloc (by simp) _).kept (by simp) hx
  have vr : VecAt w1 (w.heap.size + 1 + 1) 0 0 0 := (by simpa using vecAt_new ((w.alloc _).alloc _) 0 0 0 _ : VecAt _ (w.heap.size + 1 + 1) 0 0 0).kept (by simp) hx
  have fr : FreeAt w1 (w.heap.size + 1 + 1) := (by simpa using freeAt_new ((w.alloc _).alloc _) 0 0 0 _ : FreeAt _ (w.heap.size + 1 + 1)).kept (by simp) hx
  have hs : w.heap.size + 2 < w1.heap.size := by have := hx.size; simp at this; omega
  have hB : Below w.heap.size w w1 := below_call (below3 _ _ _ _) hx
  clear hx
  cases h1 : rightT a b c d
  · have HR := hide (ap_none (a := a) (b := b) (c := c) (d := d) (x := x) (y := y) (z := z) (by rw [apR, h1]; rfl))
    obtain ⟨cr0, cr1, cr2⟩ := vr
    obtain ⟨fr0, fr1, fr2⟩ := fr
    go_wp2_with fail
    exact bodyPost_ret (v := .agg #[.int .i64 0, .int .i64 0, .int .i64 0]) (by simp [results, Tryd.results51, go_sem, cr0, cr1, cr2]) rfl ⟨by rw [unhide HR], below_set3 hB (by omega) _ _ _⟩
  · have wa := va
    have wv := vv
    obtain ⟨ca0, ca1, ca2, ca3⟩ := wa
    obtain ⟨cv0, cv1, cv2⟩ := wv
    go_wp2_with fail
    clear ca0 ca1 ca2 ca3 cv0 cv1 cv2
    refine (isWide_any x y z _).mono ?_
    rintro e w2 ⟨rfl, hx⟩
    replace va := va.kept (by omega) hx
    replace vv := vv.kept (by omega) hx
    replace vr := vr.kept (by omega) hx
    replace fr := fr.kept (by omega) hx
    replace hB := below_call hB hx
    replace hs : w.heap.size + 2 < w2.heap.size := by have := hx.size; omega
    clear hx
    cases h2 : wideB x y z
    · have HR := hide (ap_none (a := a) (b := b) (c := c) (d := d) (x := x) (y := y) (z := z) (by rw [apR, h1, h2]; rfl))
      obtain ⟨cr0, cr1, cr2⟩ := vr
      obtain ⟨fr0, fr1, fr2⟩ := fr
      go_wp2_with fail
      exact bodyPost_ret (v := .agg #[.int .i64 0, .int .i64 0, .int .i64 0]) (by simp [results, Tryd.results51, go_sem, cr0, cr1, cr2]) rfl ⟨by rw [unhide HR], below_set3 hB (by omega) _ _ _⟩
    · have wa := va
      have wv := vv
      obtain ⟨ca0, ca1, ca2, ca3⟩ := wa
      obtain ⟨cv0, cv1, cv2⟩ := wv
      have HR := hide (ap_some (a := a) (b := b) (c := c) (d := d) (x := x) (y := y) (z := z) (by rw [apR, h1, h2]; rfl))
      have HX := hide (apW_X (rightT_iff.1 h1).1 (wide_in h2))
      have HY := hide (apW_Y (rightT_iff.1 h1).1 (wide_in h2))
      have HZ := hide (apW_Z (rightT_iff.1 h1).1 (wide_in h2))
      obtain ⟨cr0, cr1, cr2⟩ := vr
      obtain ⟨fr0, fr1, fr2⟩ := fr
      clear va vv h1 h2
      go_wp2
      go_quiet (fail)
      go_wp2
      go_quiet (fail)
      go_wp2
      go_quiet (fail)
      go_wp2
      rw [unhide HX, unhide HY, unhide HZ]
      exact bodyPost_ret (v := .agg #[.int .i64 (apX a b c d x y z), .int .i64 (apY a b c d x y z), .int .i64 (apZ a b c d x y z)]) (by simp [results, Tryd.results51, go_sem, cr0, cr1, cr2]) rfl ⟨by rw [unhide HR], below_set3 (below_call hB (below_drewN _ _)) (by omega) _ _ _⟩
end Go.Proofs.YtdkfbfiofniblaaDoor
