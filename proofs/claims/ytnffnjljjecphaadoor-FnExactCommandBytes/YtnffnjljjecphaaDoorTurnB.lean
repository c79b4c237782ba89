/- Whether a turn is right, as the specification says it: the bound on each part, the first part that is not 0, the greatest number that divides all. -/
import Derived.Test.YtnffnjljjecphaaDoorTurnA
import Derived.Deep.QuietTactic
import Derived.BigQuiet
namespace Go.Proofs.YtnffnjljjecphaaDoor
open Go.RowKit
set_option linter.unusedVariables false

set_option maxRecDepth 100000 in
theorem l03Within_any (m a b c d : Int) (w : World) (hm0 : 0 ≤ m) (hm : m ≤ 1000000) :
    Calls Tryd.prog 62 #[.agg #[.int .i64 a, .int .i64 b, .int .i64 c, .int .i64 d], .int .i64 m] w fun e w' => e = .returned (.bool (inT m a b c d)) ∧ Below w.heap.size w w' := by
  have hwr : wrap64 (-m) = -m := wrap_id (by omega) (by omega)
  go_enter Tryd.func62, Tryd.ntmps62
  go_wp2_with fail
  refine (l02Is_any a (-m) m _).mono ?_
  rintro e w1 ⟨rfl, rfl⟩
  rw [isB]
  cases ha : inB m a
  · go_wp2_with fail
    go_ret
    exact ⟨by simp [inT, ha], below1 _ _⟩
  · go_wp2_with fail
    refine (l02Is_any b (-m) m _).mono ?_
    rintro e w1 ⟨rfl, rfl⟩
    rw [isB]
    cases hb : inB m b
    · go_wp2_with fail
      go_ret
      exact ⟨by simp [inT, hb], below1 _ _⟩
    · go_wp2_with fail
      refine (l02Is_any c (-m) m _).mono ?_
      rintro e w1 ⟨rfl, rfl⟩
      rw [isB]
      cases hc : inB m c
      · go_wp2_with fail
        go_ret
        exact ⟨by simp [inT, hc], below1 _ _⟩
      · go_wp2_with fail
        refine (l02Is_any d (-m) m _).mono ?_
        rintro e w1 ⟨rfl, rfl⟩
        rw [isB]
        go_wp2_with fail
        go_ret
        exact ⟨by simp [inT, ha, hb, hc], below1 _ _⟩

theorem fT_0 {a b c d : Int} (h : a ≠ 0) : fT a b c d = a := by unfold fT; rw [if_pos h]
theorem fT_1 {b c d : Int} (h : b ≠ 0) : fT 0 b c d = b := by unfold fT; rw [if_neg (by simp), if_pos h]
theorem fT_2 {c d : Int} (h : c ≠ 0) : fT 0 0 c d = c := by unfold fT; rw [if_neg (by simp), if_neg (by simp), if_pos h]
theorem fT_3 {d : Int} : fT 0 0 0 d = d := by unfold fT; rw [if_neg (by simp), if_neg (by simp), if_neg (by simp)]

set_option maxRecDepth 100000 in
theorem l03First_any (a b c d : Int) (w : World) :
    Calls Tryd.prog 63 #[.agg #[.int .i64 a, .int .i64 b, .int .i64 c, .int .i64 d]] w fun e w' => e = .returned (.int .i64 (fT a b c d)) ∧ Below w.heap.size w w' := by
  go_enter Tryd.func63, Tryd.ntmps63
  go_wp2_with fail
  go_loop [4] (fun i => ∃ k : Nat, k ≤ 4 ∧ i = .int .i64 k ∧ Hid (0 < k → a = 0) ∧ Hid (1 < k → b = 0) ∧ Hid (2 < k → c = 0) ∧ Hid (3 < k → d = 0)) (fun i => 4 - (intOf i).toNat)
  case atStart => exact ⟨0, Nat.zero_le _, rfl, hide (by omega), hide (by omega), hide (by omega), hide (by omega)⟩
  case round =>
    obtain ⟨k, hk, rfl, hx, hy, hz, hu⟩ := hrel
    have hk5 : k = 0 ∨ k = 1 ∨ k = 2 ∨ k = 3 ∨ k = 4 := by omega
    rcases hk5 with rfl | rfl | rfl | rfl | rfl
    · have _u := hk
      by_cases h : a = 0
      · subst h
        clear hx hy hz hu
        go_wp2
        go_round
        case rel => exact ⟨1, by omega, rfl, hide (by simp), hide (by omega), hide (by omega), hide (by omega)⟩
        case measure => simp [intOf]
      · have HF : Hid (fT a b c d = a) := hide (fT_0 h)
        clear hx hy hz hu
        go_wp2
        go_ret
        exact ⟨by rw [unhide HF]; rfl, below2 _ _ _⟩
    · have e0 := unhide hx (by omega)
      subst e0
      by_cases h : b = 0
      · subst h
        clear hx hy hz hu
        go_wp2
        go_round
        case rel => exact ⟨2, by omega, rfl, hide (by simp), hide (by simp), hide (by omega), hide (by omega)⟩
        case measure => simp [intOf]
      · have HF : Hid (fT 0 b c d = b) := hide (fT_1 h)
        clear hx hy hz hu
        go_wp2
        go_ret
        exact ⟨by rw [unhide HF]; rfl, below2 _ _ _⟩
    · have e0 := unhide hx (by omega)
      have e1 := unhide hy (by omega)
      subst e0 e1
      by_cases h : c = 0
      · subst h
        clear hx hy hz hu
        go_wp2
        go_round
        case rel => exact ⟨3, by omega, rfl, hide (by simp), hide (by simp), hide (by simp), hide (by omega)⟩
        case measure => simp [intOf]
      · have HF : Hid (fT 0 0 c d = c) := hide (fT_2 h)
        clear hx hy hz hu
        go_wp2
        go_ret
        exact ⟨by rw [unhide HF]; rfl, below2 _ _ _⟩
    · have e0 := unhide hx (by omega)
      have e1 := unhide hy (by omega)
      have e2 := unhide hz (by omega)
      subst e0 e1 e2
      by_cases h : d = 0
      · subst h
        clear hx hy hz hu
        go_wp2
        go_round
        case rel => exact ⟨4, by omega, rfl, hide (by simp), hide (by simp), hide (by simp), hide (by simp)⟩
        case measure => simp [intOf]
      · have HF : Hid (fT 0 0 0 d = d) := hide fT_3
        clear hx hy hz hu
        go_wp2
        go_ret
        exact ⟨by rw [unhide HF]; rfl, below2 _ _ _⟩
    · have e0 := unhide hx (by omega)
      have e1 := unhide hy (by omega)
      have e2 := unhide hz (by omega)
      have e3 := unhide hu (by omega)
      subst e0 e1 e2 e3
      clear hx hy hz hu
      go_wp2
      go_ret
      exact ⟨by rw [fT_3]; rfl, below2 _ _ _⟩

set_option maxRecDepth 100000 in
theorem l03Gcd_any (a b c d : Int) (w : World) (h : inT 1000 a b c d = true) :
    Calls Tryd.prog 64 #[.agg #[.int .i64 a, .int .i64 b, .int .i64 c, .int .i64 d]] w fun e w' => e = .returned (.int .i64 (gT a b c d)) ∧ Below w.heap.size w w' := by
  obtain ⟨ha, hb, hc, hd⟩ := inT_iff.1 h
  have hg1 := gcd_le ha hb
  have hg2 := gcd_le hc hd
  go_enter Tryd.func64, Tryd.ntmps64
  go_wp2_with fail
  go_quiet (first | (go_at_call_of 95 (Value.int IntKind.i64 a); refine Calls.quiet_of (l02Gcd_any a b _ (by omega) (by omega))) | (go_at_call_of 95 (Value.int IntKind.i64 c); refine Calls.quiet_of (l02Gcd_any c d _ (by omega) (by omega))) | (go_at_call 95; refine Calls.quiet_of (l02Gcd_any _ _ _ ?_ ?_) <;> omega))
  go_wp2
  go_ret
  exact ⟨rfl, below_call (below1 _ _) (below_drewN _ _)⟩

set_option maxRecDepth 100000 in
theorem specTRight_any (a b c d : Int) (w : World) :
    Calls Tryd.prog 26 #[.agg #[.int .i64 a, .int .i64 b, .int .i64 c, .int .i64 d]] w fun e w' => e = .returned (.bool (rightT a b c d)) ∧ Below w.heap.size w w' := by
  go_enter Tryd.func26, Tryd.ntmps26
  go_wp2_with fail
  refine (l03Within_any 5 a b c d _ (by omega) (by omega)).mono ?_
  rintro e w1 ⟨rfl, hB1⟩
  have va : TurnAt w1 w.heap.size a b c d := (turnAt_new w a b c d _).kept (by simp) hB1
  have hB : Below w.heap.size w w1 := below_call (below1 _ _) hB1
  clear hB1
  have hva := va
  obtain ⟨c0, c1, c2, c3⟩ := va
  cases h5 : inT 5 a b c d
  · go_wp2_with fail
    go_ret
    exact ⟨by simp [rightT, h5], hB⟩
  · go_wp2_with fail
    refine (l03First_any a b c d _).mono ?_
    rintro e w2 ⟨rfl, hB2⟩
    have va := hva.kept hva.lt hB2
    replace hB := below_call hB hB2
    clear hB2 hva c0 c1 c2 c3
    have hva := va
    obtain ⟨c0, c1, c2, c3⟩ := va
    by_cases hf : 0 < fT a b c d
    · go_wp2_with fail
      refine (l03Gcd_any a b c d _ (inT_mono h5 (by omega))).mono ?_
      rintro e w3 ⟨rfl, hB3⟩
      replace hB := below_call hB hB3
      go_wp2_with fail
      go_ret
      exact ⟨by rw [rightT, h5, decide_eq_true hf]; rfl, hB⟩
    · have HN := hide (decide_eq_false hf)
      go_wp2_with fail
      go_ret
      exact ⟨by rw [rightT, h5, unhide HN]; rfl, hB⟩

end Go.Proofs.YtnffnjljjecphaaDoor
