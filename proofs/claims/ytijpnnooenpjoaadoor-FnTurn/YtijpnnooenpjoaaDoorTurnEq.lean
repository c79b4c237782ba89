/- Answers of turns, compared with themselves; a turn's text and what is read from it, as the law asks them. -/
import Derived.Test.YtijpnnooenpjoaaDoorReadMath
import Derived.Test.YtijpnnooenpjoaaDoorTurnA
import Derived.Test.YtijpnnooenpjoaaDoorVecC
namespace Go.Proofs.YtijpnnooenpjoaaDoor
open Go.RowKit
set_option linter.unusedVariables false

theorem equal_turnN (n : Nat) (a1 a2 a3 a4 : Int) (w : World) : (Op.equalIn (n + 2) 37 (.agg #[.int .i64 a1, .int .i64 a2, .int .i64 a3, .int .i64 a4]) (.agg #[.int .i64 a1, .int .i64 a2, .int .i64 a3, .int .i64 a4])).run Tryd.prog w = .ok true w := by
  have h := run_equalIn_struct (P := Tryd.prog) w (n + 1) 37 #[.int .i64 a1, .int .i64 a2, .int .i64 a3, .int .i64 a4] #[.int .i64 a1, .int .i64 a2, .int .i64 a3, .int .i64 a4] (by kernel_rfl) (by kernel_rfl)
  refine h.trans ?_
  simp [go_sem]
theorem equal_out (a1 a2 a3 a4 a5 : Int) (w : World) : (Op.equalIn 10000 45 (.agg #[.int .i64 a1, .int .i64 a2, .int .i64 a3, .int .i64 a4, .int .i64 a5]) (.agg #[.int .i64 a1, .int .i64 a2, .int .i64 a3, .int .i64 a4, .int .i64 a5])).run Tryd.prog w = .ok true w := by
  have h := run_equalIn_struct (P := Tryd.prog) w 9999 45 #[.int .i64 a1, .int .i64 a2, .int .i64 a3, .int .i64 a4, .int .i64 a5] #[.int .i64 a1, .int .i64 a2, .int .i64 a3, .int .i64 a4, .int .i64 a5] (by kernel_rfl) (by kernel_rfl)
  refine h.trans ?_
  simp [go_sem]
theorem neq_out (a1 a2 a3 a4 a5 : Int) (w : World) : (binOp .neq 45 (.agg #[.int .i64 a1, .int .i64 a2, .int .i64 a3, .int .i64 a4, .int .i64 a5]) (.agg #[.int .i64 a1, .int .i64 a2, .int .i64 a3, .int .i64 a4, .int .i64 a5])).run Tryd.prog w = .ok (.bool false) w := by
  rw [run_neq_struct, equal_out]; rfl
theorem neq_turn_self (a1 a2 a3 a4 : Int) (w : World) : (binOp .neq 37 (.agg #[.int .i64 a1, .int .i64 a2, .int .i64 a3, .int .i64 a4]) (.agg #[.int .i64 a1, .int .i64 a2, .int .i64 a3, .int .i64 a4])).run Tryd.prog w = .ok (.bool false) w := by
  rw [neq_turn]; simp [eqT]
theorem neq_vec_self (a1 a2 a3 : Int) (w : World) : (binOp .neq 39 (.agg #[.int .i64 a1, .int .i64 a2, .int .i64 a3]) (.agg #[.int .i64 a1, .int .i64 a2, .int .i64 a3])).run Tryd.prog w = .ok (.bool false) w := by
  rw [neq_vec]; simp [eqB]

theorem text_full {a b c d : Int} (h : (textB a b c d).size ≠ 0) : rightT a b c d = true := by
  cases hr : rightT a b c d with
  | true => rfl
  | false => exact absurd (by unfold textB; rw [hr]; rfl) h
theorem read_text {a b c d : Int} {s : ByteArray} (ht : s = textB a b c d) (h : s.size ≠ 0) : readP s (looseP s).a = a ∧ readP s (looseP s).b = b ∧ readP s (looseP s).c = c ∧ readP s (looseP s).d = d ∧ readC s = 0 := by
  have hr : rightT a b c d = true := text_full (by rw [← ht]; exact h)
  obtain ⟨e, e1, e2, e3, e4⟩ := readR_some hr ht.symm
  have hs : s.size ≤ 8000 := by have := text_size (a := a) (b := b) (c := c) (d := d); rw [← ht] at this; omega
  unfold readP readC
  simp [hs, e, e1, e2, e3, e4]
theorem text_read {s : ByteArray} (h : readC s = 0) : textB (readP s (looseP s).a) (readP s (looseP s).b) (readP s (looseP s).c) (readP s (looseP s).d) = s := by
  unfold readC at h
  split at h
  · rename_i hs
    cases hr : readR s with
    | false => rw [hr] at h; simp at h
    | true =>
      unfold readP
      simp only [hs, hr, and_self, if_true]
      unfold readR at hr
      rw [Bool.and_eq_true, decide_eq_true_iff] at hr
      exact hr.2
  · omega
end Go.Proofs.YtijpnnooenpjoaaDoor
