/- FrameLess, walked: the specification's. -/
import Derived.Test.YtnffnjljjecphaaDoorFrC
import Derived.Deep.DeepCutAuto
namespace Go.Proofs.YtnffnjljjecphaaDoor
open Go.RowKit Go.Sort
set_option linter.unusedVariables false

/-- '[]byte(s)', the world told by what is kept -/
theorem bytesOf (s : ByteArray) (w : World) : ∃ (cap : Nat) (w4 : World), (convert 9 116 (.string s)).run Tryd.prog w = .ok (.slice (some ⟨w.heap.size, 0, none⟩) s.size cap) w4 ∧ BRow w4 w.heap.size s.size (fun j => (byteN s j : Int)) ∧ Below w.heap.size w w4 ∧ w4.heap.size = w.heap.size + 1 := by
  have h := run_bytes_of_string (P := Tryd.prog) w 9 116 5 s Tryd.underlying9 Tryd.underlying116 Tryd.underlying5
  have hh : (w.drew.alloc (.cells (bytesRow s (grownCap w s.size 0 5)) 5 ((bytesRow s (grownCap w s.size 0 5)).size, (bytesRow s (grownCap w s.size 0 5)).size + 1))).heap[w.heap.size]? = _ := heap_alloc_new w.drew _
  refine ⟨_, _, h, fun j hj => ⟨?_, ?_⟩, ((Below.refl _ w).drew).alloc (Nat.le_refl _) _, by simp⟩
  · have hr := bytesRow_at s (grownCap w s.size 0 5) j hj
    unfold World.cell?
    simp only [hh, hr]
    rw [byteN_lt hj]
    rfl
  · have hsz : s.size ≤ (bytesRow s (grownCap w s.size 0 5)).size := by simp [bytesRow]
    unfold World.frozen?
    simp only [hh]
    simp
    omega
theorem both_no1 {w1 h1 w2 h2 : Int} {f d : ByteArray} (h : frameB w1 h1 f = false) : bothB w1 h1 f w2 h2 d = false := by unfold bothB; rw [h]; rfl
theorem both_no2 {w1 h1 w2 h2 : Int} {f d : ByteArray} (h : frameB w2 h2 d = false) : bothB w1 h1 f w2 h2 d = false := by unfold bothB; rw [h]; simp
theorem both_no3 {w1 h1 w2 h2 : Int} {f d : ByteArray} (h : ¬ w1 = w2) : bothB w1 h1 f w2 h2 d = false := by unfold bothB; simp [h]
theorem both_no4 {w1 h1 w2 h2 : Int} {f d : ByteArray} (h : ¬ h1 = h2) : bothB w1 h1 f w2 h2 d = false := by unfold bothB; simp [h]
theorem both_yes {w1 h1 w2 h2 : Int} {f d : ByteArray} (a : frameB w1 h1 f = true) (b : frameB w2 h2 d = true) (c : w1 = w2) (e : h1 = h2) : bothB w1 h1 f w2 h2 d = true := by unfold bothB; rw [a, b]; simp [c, e]
theorem lessV_no {w1 h1 w2 h2 : Int} {f d : ByteArray} (h : bothB w1 h1 f w2 h2 d = false) : lessV w1 h1 f w2 h2 d = .agg #[.int .i64 0, .int .i64 0, .string ⟨#[]⟩, .int .i64 1] := by unfold lessV; rw [h]; rfl
theorem lessV_yes {w1 h1 w2 h2 : Int} {f d : ByteArray} (h : bothB w1 h1 f w2 h2 d = true) : lessV w1 h1 f w2 h2 d = .agg #[.int .i64 w1, .int .i64 h1, .string (lessS f d), .int .i64 0] := by unfold lessV; rw [if_pos h]

theorem less_step {f d : ByteArray} {k : Nat} {v : Int} (h : lessI f d k = v) (j : Nat) : (if j = k then v else if j < k then lessI f d j else (byteN f j : Int)) = if j < k + 1 then lessI f d j else (byteN f j : Int) := by
  by_cases e : j = k
  · subst e; rw [if_pos rfl, if_pos (by omega), h]
  · rw [if_neg e]
    by_cases e2 : j < k
    · rw [if_pos e2, if_pos (by omega)]
    · rw [if_neg e2, if_neg (by omega)]

end Go.Proofs.YtnffnjljjecphaaDoor
