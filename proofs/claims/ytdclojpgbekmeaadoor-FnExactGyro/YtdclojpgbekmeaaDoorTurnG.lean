/- Compose and Back: the program's and the specification's. -/
import Derived.Test.YtdclojpgbekmeaaDoorTurnE
namespace Go.Proofs.YtdclojpgbekmeaaDoor
open Go.RowKit Go.Sort
set_option linter.unusedVariables false

theorem co_form {s1 s2 s3 s4 t1 t2 t3 t4 : Int} (h : coR s1 s2 s3 s4 t1 t2 t3 t4 = false) : Value.agg #[.int .i64 (coP s1 s2 s3 s4 t1 t2 t3 t4 (coA s1 s2 s3 s4 t1 t2 t3 t4)), .int .i64 (coP s1 s2 s3 s4 t1 t2 t3 t4 (coB s1 s2 s3 s4 t1 t2 t3 t4)), .int .i64 (coP s1 s2 s3 s4 t1 t2 t3 t4 (coC s1 s2 s3 s4 t1 t2 t3 t4)), .int .i64 (coP s1 s2 s3 s4 t1 t2 t3 t4 (coD s1 s2 s3 s4 t1 t2 t3 t4)), .int .i64 (coK s1 s2 s3 s4 t1 t2 t3 t4)] = Value.agg #[.int .i64 0, .int .i64 0, .int .i64 0, .int .i64 0, .int .i64 1] := by
  unfold coP coK
  rw [h]; rfl
theorem co_ok {s1 s2 s3 s4 t1 t2 t3 t4 : Int} (h : coR s1 s2 s3 s4 t1 t2 t3 t4 = true) : Value.agg #[.int .i64 (coP s1 s2 s3 s4 t1 t2 t3 t4 (coA s1 s2 s3 s4 t1 t2 t3 t4)), .int .i64 (coP s1 s2 s3 s4 t1 t2 t3 t4 (coB s1 s2 s3 s4 t1 t2 t3 t4)), .int .i64 (coP s1 s2 s3 s4 t1 t2 t3 t4 (coC s1 s2 s3 s4 t1 t2 t3 t4)), .int .i64 (coP s1 s2 s3 s4 t1 t2 t3 t4 (coD s1 s2 s3 s4 t1 t2 t3 t4)), .int .i64 (coK s1 s2 s3 s4 t1 t2 t3 t4)] = Value.agg #[.int .i64 (ofP (coA s1 s2 s3 s4 t1 t2 t3 t4) (coB s1 s2 s3 s4 t1 t2 t3 t4) (coC s1 s2 s3 s4 t1 t2 t3 t4) (coD s1 s2 s3 s4 t1 t2 t3 t4) (coA s1 s2 s3 s4 t1 t2 t3 t4)), .int .i64 (ofP (coA s1 s2 s3 s4 t1 t2 t3 t4) (coB s1 s2 s3 s4 t1 t2 t3 t4) (coC s1 s2 s3 s4 t1 t2 t3 t4) (coD s1 s2 s3 s4 t1 t2 t3 t4) (coB s1 s2 s3 s4 t1 t2 t3 t4)), .int .i64 (ofP (coA s1 s2 s3 s4 t1 t2 t3 t4) (coB s1 s2 s3 s4 t1 t2 t3 t4) (coC s1 s2 s3 s4 t1 t2 t3 t4) (coD s1 s2 s3 s4 t1 t2 t3 t4) (coC s1 s2 s3 s4 t1 t2 t3 t4)), .int .i64 (ofP (coA s1 s2 s3 s4 t1 t2 t3 t4) (coB s1 s2 s3 s4 t1 t2 t3 t4) (coC s1 s2 s3 s4 t1 t2 t3 t4) (coD s1 s2 s3 s4 t1 t2 t3 t4) (coD s1 s2 s3 s4 t1 t2 t3 t4)), .int .i64 (ofC (coA s1 s2 s3 s4 t1 t2 t3 t4) (coB s1 s2 s3 s4 t1 t2 t3 t4) (coC s1 s2 s3 s4 t1 t2 t3 t4) (coD s1 s2 s3 s4 t1 t2 t3 t4))] := by
  unfold coP coK
  rw [h]; rfl

set_option maxRecDepth 100000 in
theorem after_any (s1 s2 s3 s4 t1 t2 t3 t4 : Int) (w : World) (hs : inT 5 s1 s2 s3 s4 = true) (ht : inT 5 t1 t2 t3 t4 = true) :
    Calls Tryd.prog 70 #[.agg #[.int .i64 s1, .int .i64 s2, .int .i64 s3, .int .i64 s4], .agg #[.int .i64 t1, .int .i64 t2, .int .i64 t3, .int .i64 t4]] w fun e w' => e = .returned (.agg #[.int .i64 (coA s1 s2 s3 s4 t1 t2 t3 t4), .int .i64 (coB s1 s2 s3 s4 t1 t2 t3 t4), .int .i64 (coC s1 s2 s3 s4 t1 t2 t3 t4), .int .i64 (coD s1 s2 s3 s4 t1 t2 t3 t4)]) ∧ Below w.heap.size w w' := by
  have HA := hide (coW_A hs ht).1
  have HB := hide (coW_B hs ht).1
  have HC := hide (coW_C hs ht).1
  have HD := hide (coW_D hs ht).1
  clear hs ht
  go_enter Tryd.func70, Tryd.ntmps70
  go_wp2
  rw [unhide HA, unhide HB, unhide HC, unhide HD]
  exact bodyPost_ret (v := .agg #[.int .i64 (coA s1 s2 s3 s4 t1 t2 t3 t4), .int .i64 (coB s1 s2 s3 s4 t1 t2 t3 t4), .int .i64 (coC s1 s2 s3 s4 t1 t2 t3 t4), .int .i64 (coD s1 s2 s3 s4 t1 t2 t3 t4)]) (by simp [results, Tryd.results70, go_sem]) rfl ⟨rfl, below3 _ _ _ _⟩

set_option maxRecDepth 100000 in
theorem l03Compose_any (s1 s2 s3 s4 t1 t2 t3 t4 : Int) (w : World) (hs : inT 5 s1 s2 s3 s4 = true) (ht : inT 5 t1 t2 t3 t4 = true) :
    Calls Tryd.prog 41 #[.agg #[.int .i64 s1, .int .i64 s2, .int .i64 s3, .int .i64 s4], .agg #[.int .i64 t1, .int .i64 t2, .int .i64 t3, .int .i64 t4]] w fun e w' => e = .returned (.agg #[.int .i64 (ofP (coA s1 s2 s3 s4 t1 t2 t3 t4) (coB s1 s2 s3 s4 t1 t2 t3 t4) (coC s1 s2 s3 s4 t1 t2 t3 t4) (coD s1 s2 s3 s4 t1 t2 t3 t4) (coA s1 s2 s3 s4 t1 t2 t3 t4)), .int .i64 (ofP (coA s1 s2 s3 s4 t1 t2 t3 t4) (coB s1 s2 s3 s4 t1 t2 t3 t4) (coC s1 s2 s3 s4 t1 t2 t3 t4) (coD s1 s2 s3 s4 t1 t2 t3 t4) (coB s1 s2 s3 s4 t1 t2 t3 t4)), .int .i64 (ofP (coA s1 s2 s3 s4 t1 t2 t3 t4) (coB s1 s2 s3 s4 t1 t2 t3 t4) (coC s1 s2 s3 s4 t1 t2 t3 t4) (coD s1 s2 s3 s4 t1 t2 t3 t4) (coC s1 s2 s3 s4 t1 t2 t3 t4)), .int .i64 (ofP (coA s1 s2 s3 s4 t1 t2 t3 t4) (coB s1 s2 s3 s4 t1 t2 t3 t4) (coC s1 s2 s3 s4 t1 t2 t3 t4) (coD s1 s2 s3 s4 t1 t2 t3 t4) (coD s1 s2 s3 s4 t1 t2 t3 t4)), .int .i64 (ofC (coA s1 s2 s3 s4 t1 t2 t3 t4) (coB s1 s2 s3 s4 t1 t2 t3 t4) (coC s1 s2 s3 s4 t1 t2 t3 t4) (coD s1 s2 s3 s4 t1 t2 t3 t4))]) ∧ Below w.heap.size w w' := by
  have HA := hide (coW_A hs ht).1
  have HB := hide (coW_B hs ht).1
  have HC := hide (coW_C hs ht).1
  have HD := hide (coW_D hs ht).1
  clear hs ht
  go_enter Tryd.func41, Tryd.ntmps41
  go_wp2_with fail
  rw [unhide HA, unhide HB, unhide HC, unhide HD]
  refine (specTurnOf_any _ _ _ _ _).mono ?_
  rintro e w1 ⟨rfl, hx⟩
  have vr : OutAt w1 (w.heap.size + 1 + 1) 0 0 0 0 0 := (by simpa using outAt_new ((w.alloc _).alloc _) 0 0 0 0 0 _ : OutAt _ (w.heap.size + 1 + 1) 0 0 0 0 0).kept hx
  have fr : FreeO w1 (w.heap.size + 1 + 1) := (by simpa using freeO_new ((w.alloc _).alloc _) 0 0 0 0 0 _ : FreeO _ (w.heap.size + 1 + 1)).kept (by simp) hx
  have hB : Below w.heap.size w w1 := below_call (below3 _ _ _ _) hx
  clear hx HA HB HC HD
  obtain ⟨cr0, cr1, cr2, cr3, cr4⟩ := vr
  obtain ⟨fr0, fr1, fr2, fr3, fr4⟩ := fr
  go_wp2_with fail
  exact bodyPost_ret (v := .agg #[.int .i64 (ofP (coA s1 s2 s3 s4 t1 t2 t3 t4) (coB s1 s2 s3 s4 t1 t2 t3 t4) (coC s1 s2 s3 s4 t1 t2 t3 t4) (coD s1 s2 s3 s4 t1 t2 t3 t4) (coA s1 s2 s3 s4 t1 t2 t3 t4)), .int .i64 (ofP (coA s1 s2 s3 s4 t1 t2 t3 t4) (coB s1 s2 s3 s4 t1 t2 t3 t4) (coC s1 s2 s3 s4 t1 t2 t3 t4) (coD s1 s2 s3 s4 t1 t2 t3 t4) (coB s1 s2 s3 s4 t1 t2 t3 t4)), .int .i64 (ofP (coA s1 s2 s3 s4 t1 t2 t3 t4) (coB s1 s2 s3 s4 t1 t2 t3 t4) (coC s1 s2 s3 s4 t1 t2 t3 t4) (coD s1 s2 s3 s4 t1 t2 t3 t4) (coC s1 s2 s3 s4 t1 t2 t3 t4)), .int .i64 (ofP (coA s1 s2 s3 s4 t1 t2 t3 t4) (coB s1 s2 s3 s4 t1 t2 t3 t4) (coC s1 s2 s3 s4 t1 t2 t3 t4) (coD s1 s2 s3 s4 t1 t2 t3 t4) (coD s1 s2 s3 s4 t1 t2 t3 t4)), .int .i64 (ofC (coA s1 s2 s3 s4 t1 t2 t3 t4) (coB s1 s2 s3 s4 t1 t2 t3 t4) (coC s1 s2 s3 s4 t1 t2 t3 t4) (coD s1 s2 s3 s4 t1 t2 t3 t4))]) (by simp [results, Tryd.results41, go_sem, cr0, cr1, cr2, cr3, cr4]) rfl ⟨rfl, below_set5 hB (by omega) _ _ _ _ _⟩

set_option maxHeartbeats 1000000 in
set_option maxRecDepth 100000 in
theorem compose_any (s1 s2 s3 s4 t1 t2 t3 t4 : Int) (w : World) :
    Calls Tryd.prog 60 #[.agg #[.int .i64 s1, .int .i64 s2, .int .i64 s3, .int .i64 s4], .agg #[.int .i64 t1, .int .i64 t2, .int .i64 t3, .int .i64 t4]] w fun e w' => e = .returned (.agg #[.int .i64 (coP s1 s2 s3 s4 t1 t2 t3 t4 (coA s1 s2 s3 s4 t1 t2 t3 t4)), .int .i64 (coP s1 s2 s3 s4 t1 t2 t3 t4 (coB s1 s2 s3 s4 t1 t2 t3 t4)), .int .i64 (coP s1 s2 s3 s4 t1 t2 t3 t4 (coC s1 s2 s3 s4 t1 t2 t3 t4)), .int .i64 (coP s1 s2 s3 s4 t1 t2 t3 t4 (coD s1 s2 s3 s4 t1 t2 t3 t4)), .int .i64 (coK s1 s2 s3 s4 t1 t2 t3 t4)]) ∧ Below w.heap.size w w' := by
  go_enter Tryd.func60, Tryd.ntmps60
  go_wp2_with fail
  refine (turnRight_any s1 s2 s3 s4 _).mono ?_
  rintro e w1 ⟨rfl, hx⟩
  have va : TurnAt w1 w.heap.size s1 s2 s3 s4 := (((turnAt_new w s1 s2 s3 s4 _).alloc _).alloc _).kept (by simp; omega) hx
  have vb : TurnAt w1 (w.heap.size + 1) t1 t2 t3 t4 := ((by simpa using turnAt_new (w.alloc _) t1 t2 t3 t4 _ : TurnAt _ (w.heap.size + 1) t1 t2 t3 t4).alloc _).kept (by simp) hx
  have vr : OutAt w1 (w.heap.size + 1 + 1) 0 0 0 0 0 := (by simpa using outAt_new ((w.alloc _).alloc _) 0 0 0 0 0 _ : OutAt _ (w.heap.size + 1 + 1) 0 0 0 0 0).kept hx
  have fr : FreeO w1 (w.heap.size + 1 + 1) := (by simpa using freeO_new ((w.alloc _).alloc _) 0 0 0 0 0 _ : FreeO _ (w.heap.size + 1 + 1)).kept (by simp) hx
  have hB : Below w.heap.size w w1 := below_call (below3 _ _ _ _) hx
  clear hx
  cases h1 : rightT s1 s2 s3 s4
  · have HR := hide (co_form (s1 := s1) (s2 := s2) (s3 := s3) (s4 := s4) (t1 := t1) (t2 := t2) (t3 := t3) (t4 := t4) (by rw [coR, h1]; rfl))
    obtain ⟨cr0, cr1, cr2, cr3, cr4⟩ := vr
    obtain ⟨fr0, fr1, fr2, fr3, fr4⟩ := fr
    go_wp2_with fail
    exact bodyPost_ret (v := .agg #[.int .i64 0, .int .i64 0, .int .i64 0, .int .i64 0, .int .i64 1]) (by simp [results, Tryd.results60, go_sem, cr0, cr1, cr2, cr3, cr4]) rfl ⟨by rw [unhide HR], below_set5 hB (by omega) _ _ _ _ _⟩
  · have wa := va
    have wb := vb
    obtain ⟨ca0, ca1, ca2, ca3⟩ := wa
    obtain ⟨cb0, cb1, cb2, cb3⟩ := wb
    go_wp2_with fail
    clear ca0 ca1 ca2 ca3 cb0 cb1 cb2 cb3
    refine (turnRight_any t1 t2 t3 t4 _).mono ?_
    rintro e w2 ⟨rfl, hx⟩
    have hlt := vr.lt
    replace va := va.kept va.lt hx
    replace vb := vb.kept vb.lt hx
    replace vr := vr.kept hx
    replace fr := fr.kept hlt hx
    replace hB := below_call hB hx
    clear hx hlt
    cases h2 : rightT t1 t2 t3 t4
    · have HR := hide (co_form (s1 := s1) (s2 := s2) (s3 := s3) (s4 := s4) (t1 := t1) (t2 := t2) (t3 := t3) (t4 := t4) (by rw [coR, h1, h2]; rfl))
      obtain ⟨cr0, cr1, cr2, cr3, cr4⟩ := vr
      obtain ⟨fr0, fr1, fr2, fr3, fr4⟩ := fr
      go_wp2_with fail
      exact bodyPost_ret (v := .agg #[.int .i64 0, .int .i64 0, .int .i64 0, .int .i64 0, .int .i64 1]) (by simp [results, Tryd.results60, go_sem, cr0, cr1, cr2, cr3, cr4]) rfl ⟨by rw [unhide HR], below_set5 hB (by omega) _ _ _ _ _⟩
    · have wa := va
      have wb := vb
      obtain ⟨ca0, ca1, ca2, ca3⟩ := wa
      obtain ⟨cb0, cb1, cb2, cb3⟩ := wb
      go_wp2_with fail
      clear ca0 ca1 ca2 ca3 cb0 cb1 cb2 cb3
      have HR := hide (co_ok (s1 := s1) (s2 := s2) (s3 := s3) (s4 := s4) (t1 := t1) (t2 := t2) (t3 := t3) (t4 := t4) (by rw [coR, h1, h2]; rfl))
      refine (after_any s1 s2 s3 s4 t1 t2 t3 t4 _ (rightT_iff.1 h1).1 (rightT_iff.1 h2).1).mono ?_
      rintro e w3 ⟨rfl, hx⟩
      have hlt := vr.lt
      replace vr := (vr.kept hx).alloc (.cells #[.int .i64 (coA s1 s2 s3 s4 t1 t2 t3 t4), .int .i64 (coB s1 s2 s3 s4 t1 t2 t3 t4), .int .i64 (coC s1 s2 s3 s4 t1 t2 t3 t4), .int .i64 (coD s1 s2 s3 s4 t1 t2 t3 t4)] 30)
      replace fr := (fr.kept hlt hx).kept (Nat.lt_of_lt_of_le hlt hx.size) (below1 _ (.cells #[.int .i64 (coA s1 s2 s3 s4 t1 t2 t3 t4), .int .i64 (coB s1 s2 s3 s4 t1 t2 t3 t4), .int .i64 (coC s1 s2 s3 s4 t1 t2 t3 t4), .int .i64 (coD s1 s2 s3 s4 t1 t2 t3 t4)] 30))
      replace hB := (below_call hB hx).alloc (below_call hB hx).size (.cells #[.int .i64 (coA s1 s2 s3 s4 t1 t2 t3 t4), .int .i64 (coB s1 s2 s3 s4 t1 t2 t3 t4), .int .i64 (coC s1 s2 s3 s4 t1 t2 t3 t4), .int .i64 (coD s1 s2 s3 s4 t1 t2 t3 t4)] 30)
      clear hx hlt va vb
      go_wp2_with fail
      refine (turnOf_any _ _ _ _ _).mono ?_
      rintro e w4 ⟨rfl, hx⟩
      have hlt := vr.lt
      replace vr := vr.kept hx
      replace fr := fr.kept hlt hx
      replace hB := below_call hB hx
      clear hx hlt
      obtain ⟨cr0, cr1, cr2, cr3, cr4⟩ := vr
      obtain ⟨fr0, fr1, fr2, fr3, fr4⟩ := fr
      go_wp2_with fail
      exact bodyPost_ret (v := .agg #[.int .i64 (ofP (coA s1 s2 s3 s4 t1 t2 t3 t4) (coB s1 s2 s3 s4 t1 t2 t3 t4) (coC s1 s2 s3 s4 t1 t2 t3 t4) (coD s1 s2 s3 s4 t1 t2 t3 t4) (coA s1 s2 s3 s4 t1 t2 t3 t4)), .int .i64 (ofP (coA s1 s2 s3 s4 t1 t2 t3 t4) (coB s1 s2 s3 s4 t1 t2 t3 t4) (coC s1 s2 s3 s4 t1 t2 t3 t4) (coD s1 s2 s3 s4 t1 t2 t3 t4) (coB s1 s2 s3 s4 t1 t2 t3 t4)), .int .i64 (ofP (coA s1 s2 s3 s4 t1 t2 t3 t4) (coB s1 s2 s3 s4 t1 t2 t3 t4) (coC s1 s2 s3 s4 t1 t2 t3 t4) (coD s1 s2 s3 s4 t1 t2 t3 t4) (coC s1 s2 s3 s4 t1 t2 t3 t4)), .int .i64 (ofP (coA s1 s2 s3 s4 t1 t2 t3 t4) (coB s1 s2 s3 s4 t1 t2 t3 t4) (coC s1 s2 s3 s4 t1 t2 t3 t4) (coD s1 s2 s3 s4 t1 t2 t3 t4) (coD s1 s2 s3 s4 t1 t2 t3 t4)), .int .i64 (ofC (coA s1 s2 s3 s4 t1 t2 t3 t4) (coB s1 s2 s3 s4 t1 t2 t3 t4) (coC s1 s2 s3 s4 t1 t2 t3 t4) (coD s1 s2 s3 s4 t1 t2 t3 t4))]) (by simp [results, Tryd.results60, go_sem, cr0, cr1, cr2, cr3, cr4]) rfl ⟨by rw [unhide HR], below_set5 hB (by omega) _ _ _ _ _⟩
theorem bk_none {a b c d : Int} (h : rightT a b c d = false) : Value.agg #[.int .i64 (bkP a b c d a), .int .i64 (bkP a b c d (-b)), .int .i64 (bkP a b c d (-c)), .int .i64 (bkP a b c d (-d))] = Value.agg #[.int .i64 0, .int .i64 0, .int .i64 0, .int .i64 0] := by
  unfold bkP
  rw [h]; rfl
theorem bk_some {a b c d : Int} (h : rightT a b c d = true) : Value.agg #[.int .i64 (bkP a b c d a), .int .i64 (bkP a b c d (-b)), .int .i64 (bkP a b c d (-c)), .int .i64 (bkP a b c d (-d))] = Value.agg #[.int .i64 (ofP a (-b) (-c) (-d) a), .int .i64 (ofP a (-b) (-c) (-d) (-b)), .int .i64 (ofP a (-b) (-c) (-d) (-c)), .int .i64 (ofP a (-b) (-c) (-d) (-d))] := by
  unfold bkP
  rw [h]; rfl
theorem field_turn (p q r s k : Int) (W : World) : (Instr.field 74 (.agg #[.int .i64 p, .int .i64 q, .int .i64 r, .int .i64 s, .int .i64 k]) 0).run Tryd.prog W = .ok (.agg #[.int .i64 p, .int .i64 q, .int .i64 r, .int .i64 s]) W := by kernel_rfl
theorem neg_fits {m x : Int} (h : -m ≤ x ∧ x ≤ m) (hm : m ≤ 1000000) : wrap64 (-x) = -x := wrap_id (by omega) (by omega)

end Go.Proofs.YtdclojpgbekmeaaDoor
