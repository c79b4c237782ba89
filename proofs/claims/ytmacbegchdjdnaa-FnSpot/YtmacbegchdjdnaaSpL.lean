/- The law on spots: two lists of directions held against one another. -/
import Derived.Test.YtmacbegchdjdnaaSpF
import Derived.Lib.QuietBelow
import Derived.Deep.QuietTactic
import Derived.BigQuiet
namespace Go.Proofs.Ytmacbegchdjdnaa
open Go.RowKit Go.Sort
set_option linter.unusedVariables false
set_option maxHeartbeats 2000000 in
set_option maxRecDepth 100000 in
theorem lwVecs_any (n lo hi lo' hi' : Nat) (v v' : Value) (fI : Nat → Int) (fB : Nat → Bool) (w : World) (hn : n ≤ 1048576) (h : PRow w 46 3 lo hi n v (valVecS fI fB)) (h' : PRow w 46 3 lo' hi' n v' (valVecS fI fB)) :
    Calls Try.prog 23 #[v, v'] w fun e w' => e = .returned (.bool true) ∧ Below w.heap.size w w' := by
  have bare : ∀ (a a' : Option Addr) (c c' : Nat), Calls Try.prog 23 #[.slice a 0 c, .slice a' 0 c'] w fun e w' => e = .returned (.bool true) ∧ Below w.heap.size w w' := by
    intro a a' c c'
    clear h h'
    go_enter Try.func23, Try.ntmps23
    go_wp2_with fail
    refine wp_loop_rounds 1 ?_
    rw [rounds_succ]
    go_wp2_with fail
    go_ret
    exact ⟨rfl, Below.refl _ _⟩
  rcases h with ⟨rfl, a, c, rfl⟩ | ⟨g, c, rfl, _, _, hr⟩
  · rcases h' with ⟨_, a', c', rfl⟩ | ⟨g', c', rfl, _⟩
    · exact bare _ _ _ _
    · exact bare _ _ _ _
  rcases h' with ⟨rfl, a', c', rfl⟩ | ⟨g', c', rfl, _, _, hr'⟩
  · exact bare _ _ _ _
  clear bare
  have HR := hide hr
  have HR' := hide hr'
  clear hr hr'
  go_enter Try.func23, Try.ntmps23
  go_wp2_with fail
  go_loopw [5] (fun i wr => ∃ k : Nat, k ≤ n ∧ i = .int .i64 k ∧ Hid (Below w.heap.size w wr)) (fun i _ => n - (intOf i).toNat)
  case atStart => exact ⟨0, by omega, rfl, hide (Below.refl _ _)⟩
  case round =>
    obtain ⟨k, hk, rfl, HB⟩ := hrel
    by_cases hkn : k < n
    · have hkn2 : (k : Int) < (n : Int) := by omega
      have c0 := ((unhide HR).kept (unhide HB)).cell (j := k * 3) (by omega)
      have d0 := ((unhide HR').kept (unhide HB)).cell (j := k * 3) (by omega)
      rw [valVecS_0] at c0 d0
      have c1 := ((unhide HR).kept (unhide HB)).cell (j := k * 3 + 1) (by omega)
      have d1 := ((unhide HR').kept (unhide HB)).cell (j := k * 3 + 1) (by omega)
      rw [valVecS_1] at c1 d1
      have c2 := ((unhide HR).kept (unhide HB)).cell (j := k * 3 + 2) (by omega)
      have d2 := ((unhide HR').kept (unhide HB)).cell (j := k * 3 + 2) (by omega)
      rw [valVecS_2] at c2 d2
      generalize fI (k * 3) = x0 at c0 d0
      generalize fI (k * 3 + 1) = x1 at c1 d1
      generalize fI (k * 3 + 2) = x2 at c2 d2
      have r0 := cell_regrown c0
      have t0 := cell_regrown d0
      have r1 := cell_regrown c1
      have t1 := cell_regrown d1
      have r2 := cell_regrown c2
      have t2 := cell_regrown d2
      clear c0 d0 c1 d1 c2 d2
      go_wp2_with fail
      refine wp_region_quiet_below (by kernel_rfl) (by kernel_rfl) ?_
      repeat (go_big_quiet_step (fail))
      refine wpQuiet_nil ?_
      intro _ hw'
      obtain ⟨⟨dq, osq⟩, hw''⟩ := hw'
      subst hw''
      have hx := below_call (unhide HB) (below_regrown wr dq osq)
      generalize grow (redrawn wr dq) osq = W2 at hx ⊢
      have HB2 := hide hx
      clear hx HB r0 t0 r1 t1 r2 t2
      go_wp2_with fail
      go_roundw
      case rel => exact ⟨k + 1, by omega, by go_num, HB2⟩
      case measure => simp [intOf]; omega
    · have hkn' : k = n := by omega
      subst hkn'
      go_wp2_with fail
      go_ret
      exact ⟨rfl, unhide HB⟩
end Go.Proofs.Ytmacbegchdjdnaa
