/- Lists of int64: what eqInt64S, markInt64S and heldInt64S do. -/
import Derived.Test.YtjdehbpgdplolaaDoorRowV
import Derived.Lib.QuietBelow
import Derived.Deep.QuietTactic
import Derived.BigQuiet
namespace Go.Proofs.YtjdehbpgdplolaaDoor
open Go.RowKit Go.Sort
set_option linter.unusedVariables false
def valInt64S (fI : Nat → Int) (fB : Nat → Bool) (j : Nat) : Value := .int .i64 (fI j)
def markInt64SV (j : Nat) : Value := valInt64S (fun j => 1 + (j : Int)) (fun j => decide ((1 + (j : Int)) % 3 = 0)) j
theorem valInt64S_0 (fI : Nat → Int) (fB : Nat → Bool) (q : Nat) : valInt64S fI fB (q) = .int .i64 (fI (q)) := by unfold valInt64S; rfl
theorem markInt64SV_0 (q : Nat) : markInt64SV (q) = .int .i64 (1 + (q : Int)) := rfl
set_option maxHeartbeats 2000000 in
set_option maxRecDepth 100000 in
theorem eqInt64S_any (n lo hi lo' hi' : Nat) (v v' : Value) (fI : Nat → Int) (fB : Nat → Bool) (w : World) (hn : n ≤ 1048576) (h : PRow w 2 1 lo hi n v (valInt64S fI fB)) (h' : PRow w 2 1 lo' hi' n v' (valInt64S fI fB)) :
    Calls Tryd.prog 27 #[v, v'] w fun e w' => e = .returned (.bool true) ∧ Below w.heap.size w w' := by
  have bare : ∀ (a a' : Option Addr) (c c' : Nat), Calls Tryd.prog 27 #[.slice a 0 c, .slice a' 0 c'] w fun e w' => e = .returned (.bool true) ∧ Below w.heap.size w w' := by
    intro a a' c c'
    clear h h'
    go_enter Tryd.func27, Tryd.ntmps27
    go_wp2_with fail
    refine wp_loop_rounds 1 ?_
    rw [rounds_succ]
    go_wp2_with fail
    go_ret
    exact ⟨rfl, Below.refl _ _⟩
  rcases h with ⟨rfl, a, c, rfl⟩ | ⟨g, c, rfl, _, _, hr⟩
  · rcases h' with ⟨_, a', c', rfl⟩ | ⟨g', c', rfl, _⟩
    · exact bare _ _ _ _
    · exact bare _ _ _ _
  rcases h' with ⟨rfl, a', c', rfl⟩ | ⟨g', c', rfl, _, _, hr'⟩
  · exact bare _ _ _ _
  clear bare
  have HR := hide hr
  have HR' := hide hr'
  clear hr hr'
  go_enter Tryd.func27, Tryd.ntmps27
  go_wp2_with fail
  go_loopw [5] (fun i wr => ∃ k : Nat, k ≤ n ∧ i = .int .i64 k ∧ Hid (Below w.heap.size w wr)) (fun i _ => n - (intOf i).toNat)
  case atStart => exact ⟨0, by omega, rfl, hide (Below.refl _ _)⟩
  case round =>
    obtain ⟨k, hk, rfl, HB⟩ := hrel
    by_cases hkn : k < n
    · have hkn2 : (k : Int) < (n : Int) := by omega
      have c0 := ((unhide HR).kept (unhide HB)).cell (j := k) (by omega)
      have d0 := ((unhide HR').kept (unhide HB)).cell (j := k) (by omega)
      rw [valInt64S_0] at c0 d0
      generalize fI (k) = x0 at c0 d0
      have r0 := cell_regrown c0
      have t0 := cell_regrown d0
      clear c0 d0
      go_wp2_with fail
      refine wp_region_quiet_below (by kernel_rfl) (by kernel_rfl) ?_
      repeat (go_big_quiet_step (fail))
      refine wpQuiet_nil ?_
      intro _ hw'
      obtain ⟨⟨dq, osq⟩, hw''⟩ := hw'
      subst hw''
      have hx := below_call (unhide HB) (below_regrown wr dq osq)
      generalize grow (redrawn wr dq) osq = W2 at hx ⊢
      have HB2 := hide hx
      clear hx  HB r0 t0
      go_wp2_with fail
      go_roundw
      case rel => exact ⟨k + 1, by omega, by go_num, HB2⟩
      case measure => simp [intOf]; omega
    · have hkn' : k = n := by omega
      subst hkn'
      go_wp2_with fail
      go_ret
      exact ⟨rfl, unhide HB⟩
set_option maxHeartbeats 2000000 in
set_option maxRecDepth 100000 in
theorem markInt64S_any (n lo hi : Nat) (v : Value) (f : Nat → Value) (w : World) (hn : n ≤ 1048576) (h : PRow w 2 1 lo hi n v f) :
    Calls Tryd.prog 30 #[v, .int .i64 1] w fun e w' => e = .returned (.int .i64 (1 + (n : Int))) ∧ PRow w' 2 1 lo hi n v markInt64SV ∧ Apart lo hi w w' := by
  rcases h with ⟨rfl, a, c, rfl⟩ | ⟨g, c, rfl, h1, h2, hr⟩
  · go_enter Tryd.func30, Tryd.ntmps30
    go_wp2_with fail
    refine wp_loop_rounds 1 ?_
    rw [rounds_succ]
    go_wp2_with fail
    go_ret
    exact ⟨rfl, .inl ⟨rfl, _, _, rfl⟩, Apart.refl _ _ _⟩
  have HR := hide hr
  clear hr
  go_enter Tryd.func30, Tryd.ntmps30
  go_wp2_with fail
  go_loopw [1, 5] (fun k i wr => ∃ q : Nat, q ≤ n ∧ i = .int .i64 q ∧ k = .int .i64 (1 + (q : Int)) ∧ Hid (RowV wr 2 g (n * 1) (fun j => if j < q then markInt64SV j else f j)) ∧ Hid (w.grownBy wr (some g))) (fun _ i _ => n - (intOf i).toNat)
  case atStart => exact ⟨0, by omega, rfl, rfl, hide ((unhide HR).congr (fun j hj => by simp)), hide (gRefl w _)⟩
  case round =>
    obtain ⟨q, hq, rfl, rfl, HO, HG⟩ := hrel
    by_cases hqn : q < n
    · have hqn2 : (q : Int) < (n : Int) := by omega
      have e0 := (unhide HO).cell (j := q) (by omega)
      have f0 := (unhide HO).free (q)
      rw [if_neg (by omega)] at e0
      have R0 := unhide HO
      have R1 := R0.set (q) (.int .i64 (1 + (q : Int)))
      have HO2 : Hid (RowV _ 2 g (n * 1) (fun j => if j < q + 1 then markInt64SV j else f j)) := hide (R1.congr (fun j hj => by
        try dsimp only
        by_cases h0 : j = q
        · rw [h0]
          rw [if_pos (show q < q + 1 by omega), markInt64SV_0]
          repeat (first | rw [if_neg (by omega)] | rw [if_pos rfl])
        by_cases hlt : j < q
        · rw [if_neg h0, if_pos hlt, if_pos (by omega)]
        · rw [if_neg h0, if_neg hlt, if_neg (by omega)]))
      have HG2 := hide (gSet (unhide HG) (q) (.int .i64 (1 + (q : Int))))
      clear R0 R1
      go_wp2_with fail
      go_roundw
      case rel => exact ⟨q + 1, by omega, by go_num, by go_num, HO2, HG2⟩
      case measure => simp [intOf]; omega
    · have hqn' : q = n := by omega
      subst hqn'
      go_wp2_with fail
      go_ret
      exact ⟨rfl, .inr ⟨g, c, rfl, h1, h2, (unhide HO).congr (fun j hj => if_pos (by omega))⟩, Apart.of (unhide HG) h1 h2⟩
set_option maxHeartbeats 2000000 in
set_option maxRecDepth 100000 in
theorem heldInt64S_any (n lo hi : Nat) (v : Value) (w : World) (hn : n ≤ 1048576) (h : PRow w 2 1 lo hi n v markInt64SV) :
    Calls Tryd.prog 31 #[v, .int .i64 1] w fun e w' => e = .returned (.int .i64 (1 + (n : Int))) ∧ w' = w := by
  rcases h with ⟨rfl, a, c, rfl⟩ | ⟨g, c, rfl, h1, h2, hr⟩
  · go_enter Tryd.func31, Tryd.ntmps31
    go_wp2_with fail
    refine wp_loop_rounds 1 ?_
    rw [rounds_succ]
    go_wp2_with fail
    go_ret
    exact ⟨rfl, rfl⟩
  have HR := hide hr
  clear hr
  go_enter Tryd.func31, Tryd.ntmps31
  go_wp2_with fail
  go_loop [1, 5] (fun k i => ∃ q : Nat, q ≤ n ∧ i = .int .i64 q ∧ k = .int .i64 (1 + (q : Int))) (fun _ i => n - (intOf i).toNat)
  case atStart => exact ⟨0, by omega, rfl, rfl⟩
  case round =>
    obtain ⟨q, hq, rfl, rfl⟩ := hrel
    by_cases hqn : q < n
    · have hqn2 : (q : Int) < (n : Int) := by omega
      have e0 : w.cell? ⟨g, q, none⟩ = some (.int .i64 (1 + (q : Int))) := by rw [(unhide HR).cell (j := q) (by omega), markInt64SV_0]
      go_wp2_with fail
      all_goals
        go_round
        case rel => exact ⟨q + 1, by omega, by go_num, by go_num⟩
        case measure => simp [intOf]; omega
    · have hqn' : q = n := by omega
      subst hqn'
      go_wp2_with fail
      go_ret
      exact ⟨rfl, rfl⟩
end Go.Proofs.YtjdehbpgdplolaaDoor
