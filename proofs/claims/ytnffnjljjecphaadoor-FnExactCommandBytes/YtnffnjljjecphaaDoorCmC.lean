/- Commands, the program's: sameCommand; the command that each wish is of. -/
import Derived.Test.YtnffnjljjecphaaDoorCmB
namespace Go.Proofs.YtnffnjljjecphaaDoor
open Go.RowKit Go.Sort
set_option linter.unusedVariables false

/-- what sameCommand tells, q: whether the spots are the same -/
def sameC (c d : Cm) (q : Bool) : Bool := decide (c.kind = d.kind) && eqT c.A c.B c.C c.D d.A d.B d.C d.D && q && frEq c.wd c.ht d.wd d.ht c.px d.px && decide (c.lv = d.lv) && decide (c.fo = d.fo)
set_option maxHeartbeats 4000000 in
set_option maxRecDepth 100000 in
theorem sameCommand_any (kind' A' B' C' D' wd' ht' lv' fo' kind A B C D wd ht lv fo : Int) (px' px : ByteArray) (S' S : List D3) (a a' : Option Addr) (n m c c' : Nat) (q : Bool) (w : World)
    (hq : ∀ W : World, Below w.heap.size w W → Calls Tryd.prog 104 #[.slice a' m c', .slice a n c] W fun e w' => e = .returned (.bool q) ∧ Below W.heap.size W w') :
    Calls Tryd.prog 74 #[.agg #[.int .i64 kind', .int .i64 A', .int .i64 B', .int .i64 C', .int .i64 D', .slice a' m c', .int .i64 wd', .int .i64 ht', .string px', .int .i64 lv', .int .i64 fo'], .agg #[.int .i64 kind, .int .i64 A, .int .i64 B, .int .i64 C, .int .i64 D, .slice a n c, .int .i64 wd, .int .i64 ht, .string px, .int .i64 lv, .int .i64 fo]] w fun e w' => e = .returned (.bool (sameC ⟨kind', A', B', C', D', S', wd', ht', px', lv', fo'⟩ ⟨kind, A, B, C, D, S, wd, ht, px, lv, fo⟩ q)) ∧ Below w.heap.size w w' := by
  have B0 := hide (below2 w (.cells #[.int .i64 kind', .int .i64 A', .int .i64 B', .int .i64 C', .int .i64 D', .slice a' m c', .int .i64 wd', .int .i64 ht', .string px', .int .i64 lv', .int .i64 fo'] 35) (.cells #[.int .i64 kind, .int .i64 A, .int .i64 B, .int .i64 C, .int .i64 D, .slice a n c, .int .i64 wd, .int .i64 ht, .string px, .int .i64 lv, .int .i64 fo] 35))
  have A0 := hide ((blk_new w [.int .i64 kind', .int .i64 A', .int .i64 B', .int .i64 C', .int .i64 D', .slice a' m c', .int .i64 wd', .int .i64 ht', .string px', .int .i64 lv', .int .i64 fo'] 35).alloc (.cells #[.int .i64 kind, .int .i64 A, .int .i64 B, .int .i64 C, .int .i64 D, .slice a n c, .int .i64 wd, .int .i64 ht, .string px, .int .i64 lv, .int .i64 fo] 35))
  have U0 := hide (by simpa using blk_new (w.alloc (.cells #[.int .i64 kind', .int .i64 A', .int .i64 B', .int .i64 C', .int .i64 D', .slice a' m c', .int .i64 wd', .int .i64 ht', .string px', .int .i64 lv', .int .i64 fo'] 35)) [.int .i64 kind, .int .i64 A, .int .i64 B, .int .i64 C, .int .i64 D, .slice a n c, .int .i64 wd, .int .i64 ht, .string px, .int .i64 lv, .int .i64 fo] 35 : Blk ((w.alloc (.cells #[.int .i64 kind', .int .i64 A', .int .i64 B', .int .i64 C', .int .i64 D', .slice a' m c', .int .i64 wd', .int .i64 ht', .string px', .int .i64 lv', .int .i64 fo'] 35)).alloc (.cells #[.int .i64 kind, .int .i64 A, .int .i64 B, .int .i64 C, .int .i64 D, .slice a n c, .int .i64 wd, .int .i64 ht, .string px, .int .i64 lv, .int .i64 fo] 35)) (w.heap.size + 1) [.int .i64 kind, .int .i64 A, .int .i64 B, .int .i64 C, .int .i64 D, .slice a n c, .int .i64 wd, .int .i64 ht, .string px, .int .i64 lv, .int .i64 fo] 35)
  have cQ := hide (hq _ (unhide B0))
  clear hq
  obtain ⟨y1, e1⟩ : ∃ y, decide (kind' = kind) = y := ⟨_, rfl⟩
  obtain ⟨y2, e2⟩ : ∃ y, eqT A' B' C' D' A B C D = y := ⟨_, rfl⟩
  obtain ⟨y4, e4⟩ : ∃ y, frEq wd' ht' wd ht px' px = y := ⟨_, rfl⟩
  obtain ⟨y5, e5⟩ : ∃ y, decide (lv' = lv) = y := ⟨_, rfl⟩
  obtain ⟨y6, e6⟩ : ∃ y, decide (fo' = fo) = y := ⟨_, rfl⟩
  have HO : Hid (sameC ⟨kind', A', B', C', D', S', wd', ht', px', lv', fo'⟩ ⟨kind, A, B, C, D, S, wd, ht, px, lv, fo⟩ q = (y1 && y2 && q && y4 && y5 && y6)) := hide (by unfold sameC; dsimp only; rw [e1, e2, e4, e5, e6])
  have x1 : (kind' == kind) = y1 := by rw [← e1]; rfl
  have x5 : (lv' == lv) = y5 := by rw [← e5]; rfl
  have x6 : (fo' == fo) = y6 := by rw [← e6]; rfl
  have x2 : ∀ W : World, (binOp .eql 31 (.agg #[.int .i64 A', .int .i64 B', .int .i64 C', .int .i64 D']) (.agg #[.int .i64 A, .int .i64 B, .int .i64 C, .int .i64 D])).run Tryd.prog W = .ok (.bool y2) W := fun W => by rw [eql_turn, e2]
  have x4 : ∀ W : World, (binOp .eql 33 (.agg #[.int .i64 wd', .int .i64 ht', .string px']) (.agg #[.int .i64 wd, .int .i64 ht, .string px])).run Tryd.prog W = .ok (.bool y4) W := fun W => by rw [eql_frame, e4]
  clear e1 e2 e4 e5 e6
  cases y1
  · go_enter Tryd.func74, Tryd.ntmps74
    go_wp2_with fail
    go_ret
    exact ⟨by rw [unhide HO]; rfl, unhide B0⟩
  cases y2
  · go_enter Tryd.func74, Tryd.ntmps74
    go_wp2_with fail
    go_ret
    exact ⟨by rw [unhide HO]; rfl, unhide B0⟩
  go_enter Tryd.func74, Tryd.ntmps74
  go_wp2_with fail
  refine (unhide cQ).mono ?_
  rintro e w1 ⟨rfl, hx⟩
  have A1 := hide ((unhide A0).kept hx)
  have U1 := hide ((unhide U0).kept hx)
  have B1 := hide (below_call (unhide B0) hx)
  clear hx A0 U0 B0 cQ
  have q0 := (unhide A1).cell 0 _ rfl
  have q1 := (unhide A1).cell 1 _ rfl
  have q2 := (unhide A1).cell 2 _ rfl
  have q3 := (unhide A1).cell 3 _ rfl
  have q4 := (unhide A1).cell 4 _ rfl
  have q5 := (unhide A1).cell 5 _ rfl
  have q6 := (unhide A1).cell 6 _ rfl
  have q7 := (unhide A1).cell 7 _ rfl
  have q8 := (unhide A1).cell 8 _ rfl
  have q9 := (unhide A1).cell 9 _ rfl
  have q10 := (unhide A1).cell 10 _ rfl
  have u0 := (unhide U1).cell 0 _ rfl
  have u1 := (unhide U1).cell 1 _ rfl
  have u2 := (unhide U1).cell 2 _ rfl
  have u3 := (unhide U1).cell 3 _ rfl
  have u4 := (unhide U1).cell 4 _ rfl
  have u5 := (unhide U1).cell 5 _ rfl
  have u6 := (unhide U1).cell 6 _ rfl
  have u7 := (unhide U1).cell 7 _ rfl
  have u8 := (unhide U1).cell 8 _ rfl
  have u9 := (unhide U1).cell 9 _ rfl
  have u10 := (unhide U1).cell 10 _ rfl
  cases q
  · go_wp2_with fail
    go_ret
    exact ⟨by rw [unhide HO]; rfl, unhide B1⟩
  cases y4
  · go_wp2_with fail
    go_ret
    exact ⟨by rw [unhide HO]; rfl, unhide B1⟩
  cases y5
  · go_wp2_with fail
    go_ret
    exact ⟨by rw [unhide HO]; rfl, unhide B1⟩
  go_wp2_with fail
  go_ret
  exact ⟨by rw [unhide HO]; simp, unhide B1⟩

set_option maxRecDepth 100000 in
theorem resetCmd_any (w : World) : Calls Tryd.prog 146 #[.agg #[]] w fun e w' => e = .returned (.agg #[.int .i64 1, .int .i64 0, .int .i64 0, .int .i64 0, .int .i64 0, .slice none 0 0, .int .i64 0, .int .i64 0, .string ⟨#[]⟩, .int .i64 0, .int .i64 0]) ∧ Below w.heap.size w w' := by
  go_enter Tryd.func146, Tryd.ntmps146
  go_wp2
  exact bodyPost_ret (v := .agg #[.int .i64 1, .int .i64 0, .int .i64 0, .int .i64 0, .int .i64 0, .slice none 0 0, .int .i64 0, .int .i64 0, .string ⟨#[]⟩, .int .i64 0, .int .i64 0]) (by simp [results, Tryd.results146, go_sem]) rfl ⟨rfl, below2 _ _ _⟩
set_option maxRecDepth 100000 in
theorem gyroCmd_any (A B C D : Int) (w : World) : Calls Tryd.prog 148 #[.agg #[.int .i64 A, .int .i64 B, .int .i64 C, .int .i64 D]] w fun e w' => e = .returned (.agg #[.int .i64 2, .int .i64 A, .int .i64 B, .int .i64 C, .int .i64 D, .slice none 0 0, .int .i64 0, .int .i64 0, .string ⟨#[]⟩, .int .i64 0, .int .i64 0]) ∧ Below w.heap.size w w' := by
  go_enter Tryd.func148, Tryd.ntmps148
  go_wp2
  exact bodyPost_ret (v := .agg #[.int .i64 2, .int .i64 A, .int .i64 B, .int .i64 C, .int .i64 D, .slice none 0 0, .int .i64 0, .int .i64 0, .string ⟨#[]⟩, .int .i64 0, .int .i64 0]) (by simp [results, Tryd.results148, go_sem]) rfl ⟨rfl, below2 _ _ _⟩
set_option maxRecDepth 100000 in
theorem lookCmd_any (a : Option Addr) (n c : Nat) (w : World) : Calls Tryd.prog 150 #[.agg #[.slice a n c]] w fun e w' => e = .returned (.agg #[.int .i64 3, .int .i64 0, .int .i64 0, .int .i64 0, .int .i64 0, .slice a n c, .int .i64 0, .int .i64 0, .string ⟨#[]⟩, .int .i64 0, .int .i64 0]) ∧ Below w.heap.size w w' := by
  go_enter Tryd.func150, Tryd.ntmps150
  go_wp2
  exact bodyPost_ret (v := .agg #[.int .i64 3, .int .i64 0, .int .i64 0, .int .i64 0, .int .i64 0, .slice a n c, .int .i64 0, .int .i64 0, .string ⟨#[]⟩, .int .i64 0, .int .i64 0]) (by simp [results, Tryd.results150, go_sem]) rfl ⟨rfl, below2 _ _ _⟩
set_option maxRecDepth 100000 in
theorem frameCmd_any (wd ht lv fo : Int) (px : ByteArray) (w : World) : Calls Tryd.prog 152 #[.agg #[.int .i64 wd, .int .i64 ht, .string px, .int .i64 lv, .int .i64 fo]] w fun e w' => e = .returned (.agg #[.int .i64 4, .int .i64 0, .int .i64 0, .int .i64 0, .int .i64 0, .slice none 0 0, .int .i64 wd, .int .i64 ht, .string px, .int .i64 lv, .int .i64 fo]) ∧ Below w.heap.size w w' := by
  go_enter Tryd.func152, Tryd.ntmps152
  go_wp2
  exact bodyPost_ret (v := .agg #[.int .i64 4, .int .i64 0, .int .i64 0, .int .i64 0, .int .i64 0, .slice none 0 0, .int .i64 wd, .int .i64 ht, .string px, .int .i64 lv, .int .i64 fo]) (by simp [results, Tryd.results152, go_sem]) rfl ⟨rfl, below2 _ _ _⟩
set_option maxRecDepth 100000 in
theorem isLevelC (lv : Int) (w : World) : Calls Tryd.prog 72 #[.int .i64 lv] w fun e w' => e = .returned (.bool (spanB 0 255 lv)) ∧ w' = w := by
  by_cases h : 0 ≤ lv
  · go_enter Tryd.func72, Tryd.ntmps72
    go_wp2
    go_ret
    exact ⟨by simp [spanB, h], rfl⟩
  · go_enter Tryd.func72, Tryd.ntmps72
    go_wp2
    go_ret
    exact ⟨by rw [span_low (by omega)]; rfl, rfl⟩
set_option maxRecDepth 100000 in
theorem isFocalC (lv : Int) (w : World) : Calls Tryd.prog 73 #[.int .i64 lv] w fun e w' => e = .returned (.bool (spanB 1 40 lv)) ∧ w' = w := by
  by_cases h : 1 ≤ lv
  · go_enter Tryd.func73, Tryd.ntmps73
    go_wp2
    go_ret
    exact ⟨by simp [spanB, h], rfl⟩
  · go_enter Tryd.func73, Tryd.ntmps73
    go_wp2
    go_ret
    exact ⟨by rw [span_low (by omega)]; rfl, rfl⟩
end Go.Proofs.YtnffnjljjecphaaDoor
