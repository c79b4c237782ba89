/- Commands held against each other by the program: slices.Equal, sameCommand, must, and the command that a wish is of. -/
import Derived.Test.YtnffnjljjecphaaDoorCmA
import Derived.Test.YtnffnjljjecphaaDoorTurnA
import Derived.Test.YtnffnjljjecphaaDoorVecC
import Derived.Defers
import Derived.Recover
import Derived.WalkLawsBesides
import Derived.Lib.QuietBelow
import Derived.Deep.QuietTactic
import Derived.BigQuiet
namespace Go.Proofs.YtnffnjljjecphaaDoor
open Go.RowKit Go.Sort
set_option linter.unusedVariables false

/-- the program's errNoCommand points at b -/
def ErrCmd (b : Addr) (w : World) : Prop := w.cell? ⟨0, 0, none⟩ = some (.iface 182 (.pointer (some b)))
theorem ErrCmd.lt {b : Addr} {w : World} (h : ErrCmd b w) : 0 < w.heap.size := World.block_lt_of_cell? w _ h
theorem ErrCmd.kept {b : Addr} {w w' : World} (h : ErrCmd b w) (hB : Below w.heap.size w w') : ErrCmd b w' := by
  unfold ErrCmd
  rw [hB.cell (p := ⟨0, 0, none⟩) h.lt]
  exact h
/-- the end of a call that panics with errNoCommand -/
def noCmd (b : Addr) : Ending := .panicked [{ v := .iface 182 (.pointer (some b)), recovered := false }]
theorem must_yes (w : World) : Calls Tryd.prog 68 #[.bool true] w fun e w' => e = .returned (.tuple #[]) ∧ w' = w := by
  go_enter Tryd.func68, Tryd.ntmps68
  go_wp2
  go_end0
  exact ⟨rfl, rfl⟩
theorem must_no (p : Addr) (w : World) (h : ErrCmd p w) : Calls Tryd.prog 68 #[.bool false] w fun e w' => e = noCmd p ∧ w' = w := by
  unfold ErrCmd at h
  go_enter Tryd.func68, Tryd.ntmps68
  go_wp2
  exact ⟨rfl, rfl, rfl⟩

def frEq (a b a' b' : Int) (s s' : ByteArray) : Bool := decide (a = a') && decide (b = b') && decide (s.toList = s'.toList)
theorem equal_frame (a b a' b' : Int) (s s' : ByteArray) (w : World) : (Op.equalIn 10000 33 (.agg #[.int .i64 a, .int .i64 b, .string s]) (.agg #[.int .i64 a', .int .i64 b', .string s'])).run Tryd.prog w = .ok (frEq a b a' b' s s') w := by
  have h := run_equalIn_struct (P := Tryd.prog) w 9999 33 #[.int .i64 a, .int .i64 b, .string s] #[.int .i64 a', .int .i64 b', .string s'] (by kernel_rfl) (by kernel_rfl)
  refine h.trans ?_
  by_cases h1 : a = a'
  · by_cases h2 : b = b'
    · by_cases h3 : s.toList = s'.toList
      · simp [go_sem, frEq, h1, h2, h3]
      · simp [go_sem, frEq, h1, h2, h3]
    · simp [go_sem, frEq, h1, h2]
  · simp [go_sem, frEq, h1]
theorem eql_frame (a b a' b' : Int) (s s' : ByteArray) (w : World) : (binOp .eql 33 (.agg #[.int .i64 a, .int .i64 b, .string s]) (.agg #[.int .i64 a', .int .i64 b', .string s'])).run Tryd.prog w = .ok (.bool (frEq a b a' b' s s')) w := by
  rw [run_eql_struct, equal_frame]; rfl

set_option maxRecDepth 100000 in
theorem equal_len (a a' : Option Addr) (n m c c' : Nat) (w : World) (hne : n ≠ m) :
    Calls Tryd.prog 104 #[.slice a n c, .slice a' m c'] w fun e w' => e = .returned (.bool false) ∧ Below w.heap.size w w' := by
  have h : ¬ (n : Int) = (m : Int) := by omega
  go_enter Tryd.func104, Tryd.ntmps104
  go_wp2_with fail
  go_ret
  exact ⟨rfl, Below.refl _ _⟩
set_option maxHeartbeats 1000000 in
set_option maxRecDepth 100000 in
theorem equal_same (L : List D3) (a a' : Option Addr) (n c c' : Nat) (w : World) (hn : n ≤ 1048576) (hS : Dirs w a L n) (hS' : Dirs w a' L n) :
    Calls Tryd.prog 104 #[.slice a n c, .slice a' n c'] w fun e w' => e = .returned (.bool true) ∧ Below w.heap.size w w' := by
  rcases hS with rfl | ⟨b, o, rfl, hb, hc⟩
  · go_enter Tryd.func104, Tryd.ntmps104
    go_wp2_with fail
    refine wp_loop_rounds 1 ?_
    rw [rounds_succ]
    go_wp2_with fail
    go_ret
    exact ⟨rfl, Below.refl _ _⟩
  rcases hS' with rfl | ⟨b', o', rfl, hb', hc'⟩
  · go_enter Tryd.func104, Tryd.ntmps104
    go_wp2_with fail
    refine wp_loop_rounds 1 ?_
    rw [rounds_succ]
    go_wp2_with fail
    go_ret
    exact ⟨rfl, Below.refl _ _⟩
  have HC := hide hc
  have HC' := hide hc'
  clear hc hc'
  go_enter Tryd.func104, Tryd.ntmps104
  go_wp2_with fail
  go_loopw [13] (fun i wr => ∃ k : Nat, k ≤ n ∧ i = .int .i64 k ∧ Hid (Below w.heap.size w wr)) (fun i _ => n - (intOf i).toNat)
  case atStart => exact ⟨0, by omega, rfl, hide (Below.refl _ _)⟩
  case round =>
    obtain ⟨k, hk, rfl, HB⟩ := hrel
    by_cases hkn : k < n
    · have hkn2 : (k : Int) < (n : Int) := by omega
      obtain ⟨c0, c1, c2⟩ := ((unhide HC) k hkn).kept hb (unhide HB)
      obtain ⟨d0, d1, d2⟩ := ((unhide HC') k hkn).kept hb' (unhide HB)
      generalize (vA L k).1 = x0 at *
      generalize (vA L k).2.1 = x1 at *
      generalize (vA L k).2.2 = x2 at *
      have r0 := cell_regrown c0
      have r1 := cell_regrown c1
      have r2 := cell_regrown c2
      have t0 := cell_regrown d0
      have t1 := cell_regrown d1
      have t2 := cell_regrown d2
      have hq : ∀ W : World, (binOp .neq 75 (.agg #[.int .i64 x0, .int .i64 x1, .int .i64 x2]) (.agg #[.int .i64 x0, .int .i64 x1, .int .i64 x2])).run Tryd.prog W = .ok (.bool false) W := fun W => by
        rw [neq_vec]
        simp [eqB]
      clear c0 c1 c2 d0 d1 d2
      go_wp2_with fail
      refine wp_region_quiet_below (by kernel_rfl) (by kernel_rfl) ?_
      repeat (go_big_quiet_step (fail))
      refine wpQuiet_nil ?_
      intro _ hw'
      obtain ⟨⟨dq, osq⟩, hw''⟩ := hw'
      subst hw''
      have hx := below_call (unhide HB) (below_regrown wr dq osq)
      generalize grow (redrawn wr dq) osq = W2 at hx ⊢
      have HB2 := hide hx
      clear hx HB r0 r1 r2 t0 t1 t2
      go_wp2_with fail
      go_roundw
      case rel => exact ⟨k + 1, by omega, by go_num, HB2⟩
      case measure => simp [intOf]; omega
    · have hkn' : k = n := by omega
      subst hkn'
      go_wp2_with fail
      go_ret
      exact ⟨rfl, unhide HB⟩
end Go.Proofs.YtnffnjljjecphaaDoor
