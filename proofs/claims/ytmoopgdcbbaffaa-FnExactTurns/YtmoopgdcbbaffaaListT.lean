/- Lists of impl.Turn: what eqTurnS, markTurnS and heldTurnS do. -/
import Derived.Test.YtmoopgdcbbaffaaRowV
import Derived.Lib.QuietBelow
import Derived.Deep.QuietTactic
import Derived.BigQuiet
namespace Go.Proofs.Ytmoopgdcbbaffaa
open Go.RowKit Go.Sort
set_option linter.unusedVariables false
def valTurnS (fI : Nat → Int) (fB : Nat → Bool) (j : Nat) : Value := .int .i64 (fI j)
def markTurnSV (j : Nat) : Value := valTurnS (fun j => 1 + (j : Int)) (fun j => decide ((1 + (j : Int)) % 3 = 0)) j
theorem valTurnS_0 (fI : Nat → Int) (fB : Nat → Bool) (q : Nat) : valTurnS fI fB (q * 4) = .int .i64 (fI (q * 4)) := by unfold valTurnS; rfl
theorem valTurnS_1 (fI : Nat → Int) (fB : Nat → Bool) (q : Nat) : valTurnS fI fB (q * 4 + 1) = .int .i64 (fI (q * 4 + 1)) := by unfold valTurnS; rfl
theorem valTurnS_2 (fI : Nat → Int) (fB : Nat → Bool) (q : Nat) : valTurnS fI fB (q * 4 + 2) = .int .i64 (fI (q * 4 + 2)) := by unfold valTurnS; rfl
theorem valTurnS_3 (fI : Nat → Int) (fB : Nat → Bool) (q : Nat) : valTurnS fI fB (q * 4 + 3) = .int .i64 (fI (q * 4 + 3)) := by unfold valTurnS; rfl
theorem markTurnSV_0 (q : Nat) : markTurnSV (q * 4) = .int .i64 (1 + (q : Int) * 4) := by
  unfold markTurnSV
  rw [valTurnS_0]
  have e : (1 + ((q * 4 : Nat) : Int)) = 1 + (q : Int) * 4 := by omega
  simp only [e]
theorem markTurnSV_1 (q : Nat) : markTurnSV (q * 4 + 1) = .int .i64 (1 + (q : Int) * 4 + 1) := by
  unfold markTurnSV
  rw [valTurnS_1]
  have e : (1 + ((q * 4 + 1 : Nat) : Int)) = 1 + (q : Int) * 4 + 1 := by omega
  simp only [e]
theorem markTurnSV_2 (q : Nat) : markTurnSV (q * 4 + 2) = .int .i64 (1 + (q : Int) * 4 + 1 + 1) := by
  unfold markTurnSV
  rw [valTurnS_2]
  have e : (1 + ((q * 4 + 2 : Nat) : Int)) = 1 + (q : Int) * 4 + 1 + 1 := by omega
  simp only [e]
theorem markTurnSV_3 (q : Nat) : markTurnSV (q * 4 + 3) = .int .i64 (1 + (q : Int) * 4 + 1 + 1 + 1) := by
  unfold markTurnSV
  rw [valTurnS_3]
  have e : (1 + ((q * 4 + 3 : Nat) : Int)) = 1 + (q : Int) * 4 + 1 + 1 + 1 := by omega
  simp only [e]
set_option maxRecDepth 100000 in
theorem eqTurn_same (x0 : Int) (x1 : Int) (x2 : Int) (x3 : Int) (w : World) :
    Calls Try.prog 29 #[.agg #[.int .i64 x0, .int .i64 x1, .int .i64 x2, .int .i64 x3], .agg #[.int .i64 x0, .int .i64 x1, .int .i64 x2, .int .i64 x3]] w fun e w' => e = .returned (.bool true) ∧ Below w.heap.size w w' := by
  go_enter Try.func29, Try.ntmps29
  go_wp2
  go_ret
  exact ⟨rfl, below2 _ _ _⟩
set_option maxHeartbeats 2000000 in
set_option maxRecDepth 100000 in
theorem eqTurnS_any (n lo hi lo' hi' : Nat) (v v' : Value) (fI : Nat → Int) (fB : Nat → Bool) (w : World) (hn : n ≤ 1048576) (h : PRow w 26 4 lo hi n v (valTurnS fI fB)) (h' : PRow w 26 4 lo' hi' n v' (valTurnS fI fB)) :
    Calls Try.prog 16 #[v, v'] w fun e w' => e = .returned (.bool true) ∧ Below w.heap.size w w' := by
  have bare : ∀ (a a' : Option Addr) (c c' : Nat), Calls Try.prog 16 #[.slice a 0 c, .slice a' 0 c'] w fun e w' => e = .returned (.bool true) ∧ Below w.heap.size w w' := by
    intro a a' c c'
    clear h h'
    go_enter Try.func16, Try.ntmps16
    go_wp2_with fail
    refine wp_loop_rounds 1 ?_
    rw [rounds_succ]
    go_wp2_with fail
    go_ret
    exact ⟨rfl, Below.refl _ _⟩
  rcases h with ⟨rfl, a, c, rfl⟩ | ⟨g, c, rfl, _, _, hr⟩
  · rcases h' with ⟨_, a', c', rfl⟩ | ⟨g', c', rfl, _⟩
    · exact bare _ _ _ _
    · exact bare _ _ _ _
  rcases h' with ⟨rfl, a', c', rfl⟩ | ⟨g', c', rfl, _, _, hr'⟩
  · exact bare _ _ _ _
  clear bare
  have HR := hide hr
  have HR' := hide hr'
  clear hr hr'
  go_enter Try.func16, Try.ntmps16
  go_wp2_with fail
  go_loopw [5] (fun i wr => ∃ k : Nat, k ≤ n ∧ i = .int .i64 k ∧ Hid (Below w.heap.size w wr)) (fun i _ => n - (intOf i).toNat)
  case atStart => exact ⟨0, by omega, rfl, hide (Below.refl _ _)⟩
  case round =>
    obtain ⟨k, hk, rfl, HB⟩ := hrel
    by_cases hkn : k < n
    · have hkn2 : (k : Int) < (n : Int) := by omega
      have c0 := ((unhide HR).kept (unhide HB)).cell (j := k * 4) (by omega)
      have d0 := ((unhide HR').kept (unhide HB)).cell (j := k * 4) (by omega)
      rw [valTurnS_0] at c0 d0
      have c1 := ((unhide HR).kept (unhide HB)).cell (j := k * 4 + 1) (by omega)
      have d1 := ((unhide HR').kept (unhide HB)).cell (j := k * 4 + 1) (by omega)
      rw [valTurnS_1] at c1 d1
      have c2 := ((unhide HR).kept (unhide HB)).cell (j := k * 4 + 2) (by omega)
      have d2 := ((unhide HR').kept (unhide HB)).cell (j := k * 4 + 2) (by omega)
      rw [valTurnS_2] at c2 d2
      have c3 := ((unhide HR).kept (unhide HB)).cell (j := k * 4 + 3) (by omega)
      have d3 := ((unhide HR').kept (unhide HB)).cell (j := k * 4 + 3) (by omega)
      rw [valTurnS_3] at c3 d3
      generalize fI (k * 4) = x0 at c0 d0
      generalize fI (k * 4 + 1) = x1 at c1 d1
      generalize fI (k * 4 + 2) = x2 at c2 d2
      generalize fI (k * 4 + 3) = x3 at c3 d3
      have r0 := cell_regrown c0
      have t0 := cell_regrown d0
      have r1 := cell_regrown c1
      have t1 := cell_regrown d1
      have r2 := cell_regrown c2
      have t2 := cell_regrown d2
      have r3 := cell_regrown c3
      have t3 := cell_regrown d3
      clear c0 d0 c1 d1 c2 d2 c3 d3
      have cE := hide (fun W => eqTurn_same x0 x1 x2 x3 W)
      go_wp2_with fail
      refine wp_region_quiet_below (by kernel_rfl) (by kernel_rfl) ?_
      repeat (go_big_quiet_step (first | (with_reducible exact Calls.regrown_of (unhide cE _))))
      refine wpQuiet_nil ?_
      intro _ hw'
      obtain ⟨⟨dq, osq⟩, hw''⟩ := hw'
      subst hw''
      have hx := below_call (unhide HB) (below_regrown wr dq osq)
      generalize grow (redrawn wr dq) osq = W2 at hx ⊢
      have HB2 := hide hx
      clear hx cE HB r0 t0 r1 t1 r2 t2 r3 t3
      go_wp2_with fail
      go_roundw
      case rel => exact ⟨k + 1, by omega, by go_num, HB2⟩
      case measure => simp [intOf]; omega
    · have hkn' : k = n := by omega
      subst hkn'
      go_wp2_with fail
      go_ret
      exact ⟨rfl, unhide HB⟩
set_option maxHeartbeats 2000000 in
set_option maxRecDepth 100000 in
theorem markTurnS_any (n lo hi : Nat) (v : Value) (f : Nat → Value) (w : World) (hn : n ≤ 1048576) (h : PRow w 26 4 lo hi n v f) :
    Calls Try.prog 17 #[v, .int .i64 1] w fun e w' => e = .returned (.int .i64 (1 + (n : Int) * 4)) ∧ PRow w' 26 4 lo hi n v markTurnSV ∧ Apart lo hi w w' := by
  rcases h with ⟨rfl, a, c, rfl⟩ | ⟨g, c, rfl, h1, h2, hr⟩
  · go_enter Try.func17, Try.ntmps17
    go_wp2_with fail
    refine wp_loop_rounds 1 ?_
    rw [rounds_succ]
    go_wp2_with fail
    go_ret
    exact ⟨rfl, .inl ⟨rfl, _, _, rfl⟩, Apart.refl _ _ _⟩
  have HR := hide hr
  clear hr
  go_enter Try.func17, Try.ntmps17
  go_wp2_with fail
  go_loopw [1, 5] (fun k i wr => ∃ q : Nat, q ≤ n ∧ i = .int .i64 q ∧ k = .int .i64 (1 + (q : Int) * 4) ∧ Hid (RowV wr 26 g (n * 4) (fun j => if j < q * 4 then markTurnSV j else f j)) ∧ Hid (w.grownBy wr (some g))) (fun _ i _ => n - (intOf i).toNat)
  case atStart => exact ⟨0, by omega, rfl, rfl, hide ((unhide HR).congr (fun j hj => by simp)), hide (gRefl w _)⟩
  case round =>
    obtain ⟨q, hq, rfl, rfl, HO, HG⟩ := hrel
    by_cases hqn : q < n
    · have hqn2 : (q : Int) < (n : Int) := by omega
      have e0 := (unhide HO).cell (j := q * 4) (by omega)
      have f0 := (unhide HO).free (q * 4)
      have e1 := (unhide HO).cell (j := q * 4 + 1) (by omega)
      have f1 := (unhide HO).free (q * 4 + 1)
      have e2 := (unhide HO).cell (j := q * 4 + 2) (by omega)
      have f2 := (unhide HO).free (q * 4 + 2)
      have e3 := (unhide HO).cell (j := q * 4 + 3) (by omega)
      have f3 := (unhide HO).free (q * 4 + 3)
      rw [if_neg (by omega)] at e0
      rw [if_neg (by omega)] at e1
      rw [if_neg (by omega)] at e2
      rw [if_neg (by omega)] at e3
      have R0 := unhide HO
      have R1 := R0.set (q * 4) (.int .i64 (1 + (q : Int) * 4))
      have R2 := R1.set (q * 4 + 1) (.int .i64 (1 + (q : Int) * 4 + 1))
      have R3 := R2.set (q * 4 + 2) (.int .i64 (1 + (q : Int) * 4 + 1 + 1))
      have R4 := R3.set (q * 4 + 3) (.int .i64 (1 + (q : Int) * 4 + 1 + 1 + 1))
      have HO2 : Hid (RowV _ 26 g (n * 4) (fun j => if j < (q + 1) * 4 then markTurnSV j else f j)) := hide (R4.congr (fun j hj => by
        try dsimp only
        by_cases h3 : j = q * 4 + 3
        · subst h3
          rw [if_pos (show q * 4 + 3 < (q + 1) * 4 by omega), markTurnSV_3]
          repeat (first | rw [if_neg (by omega)] | rw [if_pos rfl])
        by_cases h2 : j = q * 4 + 2
        · subst h2
          rw [if_pos (show q * 4 + 2 < (q + 1) * 4 by omega), markTurnSV_2]
          repeat (first | rw [if_neg (by omega)] | rw [if_pos rfl])
        by_cases h1 : j = q * 4 + 1
        · subst h1
          rw [if_pos (show q * 4 + 1 < (q + 1) * 4 by omega), markTurnSV_1]
          repeat (first | rw [if_neg (by omega)] | rw [if_pos rfl])
        by_cases h0 : j = q * 4
        · subst h0
          rw [if_pos (show q * 4 < (q + 1) * 4 by omega), markTurnSV_0]
          repeat (first | rw [if_neg (by omega)] | rw [if_pos rfl])
        by_cases hlt : j < q * 4
        · rw [if_neg h3, if_neg h2, if_neg h1, if_neg h0, if_pos hlt, if_pos (by omega)]
        · rw [if_neg h3, if_neg h2, if_neg h1, if_neg h0, if_neg hlt, if_neg (by omega)]))
      have HG2 := hide (gSet (gSet (gSet (gSet (unhide HG) (q * 4) (.int .i64 (1 + (q : Int) * 4))) (q * 4 + 1) (.int .i64 (1 + (q : Int) * 4 + 1))) (q * 4 + 2) (.int .i64 (1 + (q : Int) * 4 + 1 + 1))) (q * 4 + 3) (.int .i64 (1 + (q : Int) * 4 + 1 + 1 + 1)))
      clear R0 R1 R2 R3 R4
      go_wp2_with fail
      go_roundw
      case rel => exact ⟨q + 1, by omega, by go_num, by go_num, HO2, HG2⟩
      case measure => simp [intOf]; omega
    · have hqn' : q = n := by omega
      subst hqn'
      go_wp2_with fail
      go_ret
      exact ⟨rfl, .inr ⟨g, c, rfl, h1, h2, (unhide HO).congr (fun j hj => if_pos hj)⟩, Apart.of (unhide HG) h1 h2⟩
set_option maxHeartbeats 2000000 in
set_option maxRecDepth 100000 in
theorem heldTurnS_any (n lo hi : Nat) (v : Value) (w : World) (hn : n ≤ 1048576) (h : PRow w 26 4 lo hi n v markTurnSV) :
    Calls Try.prog 18 #[v, .int .i64 1] w fun e w' => e = .returned (.int .i64 (1 + (n : Int) * 4)) ∧ w' = w := by
  rcases h with ⟨rfl, a, c, rfl⟩ | ⟨g, c, rfl, h1, h2, hr⟩
  · go_enter Try.func18, Try.ntmps18
    go_wp2_with fail
    refine wp_loop_rounds 1 ?_
    rw [rounds_succ]
    go_wp2_with fail
    go_ret
    exact ⟨rfl, rfl⟩
  have HR := hide hr
  clear hr
  go_enter Try.func18, Try.ntmps18
  go_wp2_with fail
  go_loop [1, 5] (fun k i => ∃ q : Nat, q ≤ n ∧ i = .int .i64 q ∧ k = .int .i64 (1 + (q : Int) * 4)) (fun _ i => n - (intOf i).toNat)
  case atStart => exact ⟨0, by omega, rfl, rfl⟩
  case round =>
    obtain ⟨q, hq, rfl, rfl⟩ := hrel
    by_cases hqn : q < n
    · have hqn2 : (q : Int) < (n : Int) := by omega
      have e0 : w.cell? ⟨g, q * 4, none⟩ = some (.int .i64 (1 + (q : Int) * 4)) := by rw [(unhide HR).cell (j := q * 4) (by omega), markTurnSV_0]
      have e1 : w.cell? ⟨g, q * 4 + 1, none⟩ = some (.int .i64 (1 + (q : Int) * 4 + 1)) := by rw [(unhide HR).cell (j := q * 4 + 1) (by omega), markTurnSV_1]
      have e2 : w.cell? ⟨g, q * 4 + 2, none⟩ = some (.int .i64 (1 + (q : Int) * 4 + 1 + 1)) := by rw [(unhide HR).cell (j := q * 4 + 2) (by omega), markTurnSV_2]
      have e3 : w.cell? ⟨g, q * 4 + 3, none⟩ = some (.int .i64 (1 + (q : Int) * 4 + 1 + 1 + 1)) := by rw [(unhide HR).cell (j := q * 4 + 3) (by omega), markTurnSV_3]
      go_wp2_with fail
      all_goals
        go_round
        case rel => exact ⟨q + 1, by omega, by go_num, by go_num⟩
        case measure => simp [intOf]; omega
    · have hqn' : q = n := by omega
      subst hqn'
      go_wp2_with fail
      go_ret
      exact ⟨rfl, rfl⟩
end Go.Proofs.Ytmoopgdcbbaffaa
