/- Compose and Back: the program's and the specification's. -/
import Derived.Test.YtmoopgdcbbaffaaTurnE
namespace Go.Proofs.Ytmoopgdcbbaffaa
open Go.RowKit Go.Sort
set_option linter.unusedVariables false

theorem co_form {s1 s2 s3 s4 t1 t2 t3 t4 : Int} (h : coR s1 s2 s3 s4 t1 t2 t3 t4 = false) : Value.agg #[.int .i64 (coP s1 s2 s3 s4 t1 t2 t3 t4 (coA s1 s2 s3 s4 t1 t2 t3 t4)), .int .i64 (coP s1 s2 s3 s4 t1 t2 t3 t4 (coB s1 s2 s3 s4 t1 t2 t3 t4)), .int .i64 (coP s1 s2 s3 s4 t1 t2 t3 t4 (coC s1 s2 s3 s4 t1 t2 t3 t4)), .int .i64 (coP s1 s2 s3 s4 t1 t2 t3 t4 (coD s1 s2 s3 s4 t1 t2 t3 t4)), .int .i64 (coK s1 s2 s3 s4 t1 t2 t3 t4)] = Value.agg #[.int .i64 0, .int .i64 0, .int .i64 0, .int .i64 0, .int .i64 1] := by
  unfold coP coK
  rw [h]; rfl
theorem co_ok {s1 s2 s3 s4 t1 t2 t3 t4 : Int} (h : coR s1 s2 s3 s4 t1 t2 t3 t4 = true) : Value.agg #[.int .i64 (coP s1 s2 s3 s4 t1 t2 t3 t4 (coA s1 s2 s3 s4 t1 t2 t3 t4)), .int .i64 (coP s1 s2 s3 s4 t1 t2 t3 t4 (coB s1 s2 s3 s4 t1 t2 t3 t4)), .int .i64 (coP s1 s2 s3 s4 t1 t2 t3 t4 (coC s1 s2 s3 s4 t1 t2 t3 t4)), .int .i64 (coP s1 s2 s3 s4 t1 t2 t3 t4 (coD s1 s2 s3 s4 t1 t2 t3 t4)), .int .i64 (coK s1 s2 s3 s4 t1 t2 t3 t4)] = Value.agg #[.int .i64 (ofP (coA s1 s2 s3 s4 t1 t2 t3 t4) (coB s1 s2 s3 s4 t1 t2 t3 t4) (coC s1 s2 s3 s4 t1 t2 t3 t4) (coD s1 s2 s3 s4 t1 t2 t3 t4) (coA s1 s2 s3 s4 t1 t2 t3 t4)), .int .i64 (ofP (coA s1 s2 s3 s4 t1 t2 t3 t4) (coB s1 s2 s3 s4 t1 t2 t3 t4) (coC s1 s2 s3 s4 t1 t2 t3 t4) (coD s1 s2 s3 s4 t1 t2 t3 t4) (coB s1 s2 s3 s4 t1 t2 t3 t4)), .int .i64 (ofP (coA s1 s2 s3 s4 t1 t2 t3 t4) (coB s1 s2 s3 s4 t1 t2 t3 t4) (coC s1 s2 s3 s4 t1 t2 t3 t4) (coD s1 s2 s3 s4 t1 t2 t3 t4) (coC s1 s2 s3 s4 t1 t2 t3 t4)), .int .i64 (ofP (coA s1 s2 s3 s4 t1 t2 t3 t4) (coB s1 s2 s3 s4 t1 t2 t3 t4) (coC s1 s2 s3 s4 t1 t2 t3 t4) (coD s1 s2 s3 s4 t1 t2 t3 t4) (coD s1 s2 s3 s4 t1 t2 t3 t4)), .int .i64 (ofC (coA s1 s2 s3 s4 t1 t2 t3 t4) (coB s1 s2 s3 s4 t1 t2 t3 t4) (coC s1 s2 s3 s4 t1 t2 t3 t4) (coD s1 s2 s3 s4 t1 t2 t3 t4))] := by
  unfold coP coK
  rw [h]; rfl

theorem bk_none {a b c d : Int} (h : rightT a b c d = false) : Value.agg #[.int .i64 (bkP a b c d a), .int .i64 (bkP a b c d (-b)), .int .i64 (bkP a b c d (-c)), .int .i64 (bkP a b c d (-d))] = Value.agg #[.int .i64 0, .int .i64 0, .int .i64 0, .int .i64 0] := by
  unfold bkP
  rw [h]; rfl
theorem bk_some {a b c d : Int} (h : rightT a b c d = true) : Value.agg #[.int .i64 (bkP a b c d a), .int .i64 (bkP a b c d (-b)), .int .i64 (bkP a b c d (-c)), .int .i64 (bkP a b c d (-d))] = Value.agg #[.int .i64 (ofP a (-b) (-c) (-d) a), .int .i64 (ofP a (-b) (-c) (-d) (-b)), .int .i64 (ofP a (-b) (-c) (-d) (-c)), .int .i64 (ofP a (-b) (-c) (-d) (-d))] := by
  unfold bkP
  rw [h]; rfl
theorem field_turn (p q r s k : Int) (W : World) : (Instr.field 44 (.agg #[.int .i64 p, .int .i64 q, .int .i64 r, .int .i64 s, .int .i64 k]) 0).run Try.prog W = .ok (.agg #[.int .i64 p, .int .i64 q, .int .i64 r, .int .i64 s]) W := by kernel_rfl
theorem neg_fits {m x : Int} (h : -m ≤ x ∧ x ≤ m) (hm : m ≤ 1000000) : wrap64 (-x) = -x := wrap_id (by omega) (by omega)

set_option maxHeartbeats 1000000 in
set_option maxRecDepth 100000 in
theorem back_any (a b c d : Int) (w : World) :
    Calls Try.prog 10 #[.agg #[.int .i64 a, .int .i64 b, .int .i64 c, .int .i64 d]] w fun e w' => e = .returned (.agg #[.int .i64 (bkP a b c d a), .int .i64 (bkP a b c d (-b)), .int .i64 (bkP a b c d (-c)), .int .i64 (bkP a b c d (-d))]) ∧ Below w.heap.size w w' := by
  go_enter Try.func10, Try.ntmps10
  go_wp2_with fail
  refine (turnRight_any a b c d _).mono ?_
  rintro e w1 ⟨rfl, hx⟩
  have va : TurnAt w1 w.heap.size a b c d := ((turnAt_new w a b c d _).alloc _).kept (by simp; omega) hx
  have vr : TurnAt w1 (w.heap.size + 1) 0 0 0 0 := (by simpa using turnAt_new (w.alloc _) 0 0 0 0 _ : TurnAt _ (w.heap.size + 1) 0 0 0 0).kept (by simp) hx
  have fr : FreeT w1 (w.heap.size + 1) := (by simpa using freeT_new (w.alloc _) 0 0 0 0 _ : FreeT _ (w.heap.size + 1)).kept (by simp) hx
  have hB : Below w.heap.size w w1 := below_call (below2 _ _ _) hx
  clear hx
  cases h1 : rightT a b c d
  · have HR := hide (bk_none h1)
    obtain ⟨cr0, cr1, cr2, cr3⟩ := vr
    obtain ⟨fr0, fr1, fr2, fr3⟩ := fr
    go_wp2_with fail
    exact bodyPost_ret (v := .agg #[.int .i64 0, .int .i64 0, .int .i64 0, .int .i64 0]) (by simp [results, Try.results10, go_sem, cr0, cr1, cr2, cr3]) rfl ⟨by rw [unhide HR], below_set4 hB (by omega) _ _ _ _⟩
  · have HR := hide (bk_some h1)
    have hi := inT_iff.1 (rightT_iff.1 h1).1
    have nb := neg_fits hi.2.1 (by omega)
    have nc := neg_fits hi.2.2.1 (by omega)
    have nd := neg_fits hi.2.2.2 (by omega)
    have HI : Hid (inT 1000 a (-b) (-c) (-d) = true) := hide (by rw [inT_iff]; omega)
    have HZ : Hid (zeroT a (-b) (-c) (-d) = false) := hide (by have := rightT_ne h1; rw [← Bool.not_eq_true, zeroT_iff]; omega)
    clear hi
    obtain ⟨ca0, ca1, ca2, ca3⟩ := va
    go_wp2_with fail
    refine (turnOf_any a (-b) (-c) (-d) _).mono ?_
    rintro e w2 ⟨rfl, hx⟩
    have hlt := vr.lt
    replace vr := vr.kept hlt hx
    replace fr := fr.kept hlt hx
    replace hB := below_call hB hx
    clear hx hlt ca0 ca1 ca2 ca3 nb nc nd
    obtain ⟨cr0, cr1, cr2, cr3⟩ := vr
    obtain ⟨fr0, fr1, fr2, fr3⟩ := fr
    have hfd := fun W => field_turn (ofP a (-b) (-c) (-d) a) (ofP a (-b) (-c) (-d) (-b)) (ofP a (-b) (-c) (-d) (-c)) (ofP a (-b) (-c) (-d) (-d)) (ofC a (-b) (-c) (-d)) W
    go_wp2_with fail
    exact bodyPost_ret (v := .agg #[.int .i64 (ofP a (-b) (-c) (-d) a), .int .i64 (ofP a (-b) (-c) (-d) (-b)), .int .i64 (ofP a (-b) (-c) (-d) (-c)), .int .i64 (ofP a (-b) (-c) (-d) (-d))]) (by simp [results, Try.results10, go_sem, cr0, cr1, cr2, cr3]) rfl ⟨by rw [unhide HR], below_set4 hB (by omega) _ _ _ _⟩
end Go.Proofs.Ytmoopgdcbbaffaa
