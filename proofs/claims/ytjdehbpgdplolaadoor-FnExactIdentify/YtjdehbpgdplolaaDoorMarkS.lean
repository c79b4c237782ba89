/- What markStarS writes and heldStarS finds. -/
import Derived.Test.YtjdehbpgdplolaaDoorRowF
namespace Go.Proofs.YtjdehbpgdplolaaDoor
open Go.RowKit
set_option linter.unusedVariables false
set_option maxHeartbeats 2000000 in
set_option maxRecDepth 100000 in
theorem markStarS_any (n c g : Nat) (f : Nat → Int) (w : World) (hn : n ≤ 1048576) (hR : RowAt w 46 g (n * 4) f) :
    Calls Tryd.prog 13 #[.slice (some ⟨g, 0, none⟩) n c, .int .i64 1] w fun e w' => e = .returned (.int .i64 (1 + (n : Int) * 4)) ∧ RowAt w' 46 g (n * 4) (fun j => 1 + (j : Int)) ∧ w.grownBy w' (some g) := by
  have HR := hide hR
  clear hR
  go_enter Tryd.func13, Tryd.ntmps13
  go_wp2_with fail
  go_loopw [1, 5] (fun k i wr => ∃ q : Nat, q ≤ n ∧ i = .int .i64 q ∧ k = .int .i64 (1 + (q : Int) * 4) ∧ Hid (RowAt wr 46 g (n * 4) (fun j => if j < q * 4 then 1 + (j : Int) else f j)) ∧ Hid (w.grownBy wr (some g))) (fun _ i _ => n - (intOf i).toNat)
  case atStart => exact ⟨0, by omega, rfl, rfl, hide ((unhide HR).congr (fun j hj => by simp)), hide (grownRefl w _)⟩
  case round =>
    obtain ⟨q, hq, rfl, rfl, HO, HG⟩ := hrel
    by_cases hqn : q < n
    · have hqn2 : (q : Int) < (n : Int) := by omega
      have e0 := (unhide HO).cell (j := q * 4) (by omega)
      have f0 := (unhide HO).free (q * 4)
      have e1 := (unhide HO).cell (j := q * 4 + 1) (by omega)
      have f1 := (unhide HO).free (q * 4 + 1)
      have e2 := (unhide HO).cell (j := q * 4 + 2) (by omega)
      have f2 := (unhide HO).free (q * 4 + 2)
      have e3 := (unhide HO).cell (j := q * 4 + 3) (by omega)
      have f3 := (unhide HO).free (q * 4 + 3)
      have R0 := unhide HO
      have R1 := R0.set (q * 4) (1 + (q : Int) * 4)
      have R2 := R1.set (q * 4 + 1) (1 + (q : Int) * 4 + 1)
      have R3 := R2.set (q * 4 + 2) (1 + (q : Int) * 4 + 1 + 1)
      have R4 := R3.set (q * 4 + 3) (1 + (q : Int) * 4 + 1 + 1 + 1)
      have HO2 : Hid (RowAt _ 46 g (n * 4) (fun j => if j < (q + 1) * 4 then 1 + (j : Int) else f j)) := hide (R4.congr (fun j hj => by
        try dsimp only
        repeat' split
        all_goals omega))
      have HG2 := hide (grownSet (grownSet (grownSet (grownSet (unhide HG) (q * 4) (.int .i64 (1 + (q : Int) * 4))) (q * 4 + 1) (.int .i64 (1 + (q : Int) * 4 + 1))) (q * 4 + 2) (.int .i64 (1 + (q : Int) * 4 + 1 + 1))) (q * 4 + 3) (.int .i64 (1 + (q : Int) * 4 + 1 + 1 + 1)))
      clear R0 R1 R2 R3 R4
      go_wp2_with fail
      go_roundw
      case rel => exact ⟨q + 1, by omega, by go_num, by go_num, HO2, HG2⟩
      case measure => simp [intOf]; omega
    · have hqn' : q = n := by omega
      subst hqn'
      go_wp2_with fail
      go_ret
      exact ⟨rfl, (unhide HO).congr (fun j hj => if_pos hj), unhide HG⟩
set_option maxRecDepth 100000 in
theorem markStarS_none (a : Option Addr) (c : Nat) (w : World) :
    Calls Tryd.prog 13 #[.slice a 0 c, .int .i64 1] w fun e w' => e = .returned (.int .i64 1) ∧ w' = w := by
  go_enter Tryd.func13, Tryd.ntmps13
  go_wp2_with fail
  refine wp_loop_rounds 1 ?_
  rw [rounds_succ]
  go_wp2_with fail
  go_ret
  exact ⟨rfl, rfl⟩
end Go.Proofs.YtjdehbpgdplolaaDoor
