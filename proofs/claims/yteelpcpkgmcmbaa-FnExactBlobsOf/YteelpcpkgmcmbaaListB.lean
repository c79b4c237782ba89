/- Lists of impl.Blob: what eqBlobS, markBlobS and heldBlobS do. -/
import Derived.Test.YteelpcpkgmcmbaaRowV
import Derived.Lib.QuietBelow
import Derived.Deep.QuietTactic
import Derived.BigQuiet
namespace Go.Proofs.Yteelpcpkgmcmbaa
open Go.RowKit Go.Sort
set_option linter.unusedVariables false
def valBlobS (fI : Nat → Int) (fB : Nat → Bool) (j : Nat) : Value := if j % 5 = 4 then .bool (fB j) else .int .i64 (fI j)
def markBlobSV (j : Nat) : Value := valBlobS (fun j => 1 + (j : Int)) (fun j => decide ((1 + (j : Int)) % 3 = 0)) j
theorem valBlobS_0 (fI : Nat → Int) (fB : Nat → Bool) (q : Nat) : valBlobS fI fB (q * 5) = .int .i64 (fI (q * 5)) := by unfold valBlobS; rw [if_neg (by omega)]
theorem valBlobS_1 (fI : Nat → Int) (fB : Nat → Bool) (q : Nat) : valBlobS fI fB (q * 5 + 1) = .int .i64 (fI (q * 5 + 1)) := by unfold valBlobS; rw [if_neg (by omega)]
theorem valBlobS_2 (fI : Nat → Int) (fB : Nat → Bool) (q : Nat) : valBlobS fI fB (q * 5 + 2) = .int .i64 (fI (q * 5 + 2)) := by unfold valBlobS; rw [if_neg (by omega)]
theorem valBlobS_3 (fI : Nat → Int) (fB : Nat → Bool) (q : Nat) : valBlobS fI fB (q * 5 + 3) = .int .i64 (fI (q * 5 + 3)) := by unfold valBlobS; rw [if_neg (by omega)]
theorem valBlobS_4 (fI : Nat → Int) (fB : Nat → Bool) (q : Nat) : valBlobS fI fB (q * 5 + 4) = .bool (fB (q * 5 + 4)) := by unfold valBlobS; rw [if_pos (by omega)]
theorem markBlobSV_0 (q : Nat) : markBlobSV (q * 5) = .int .i64 (1 + (q : Int) * 5) := by
  unfold markBlobSV
  rw [valBlobS_0]
  have e : (1 + ((q * 5 : Nat) : Int)) = 1 + (q : Int) * 5 := by omega
  simp only [e]
theorem markBlobSV_1 (q : Nat) : markBlobSV (q * 5 + 1) = .int .i64 (1 + (q : Int) * 5 + 1) := by
  unfold markBlobSV
  rw [valBlobS_1]
  have e : (1 + ((q * 5 + 1 : Nat) : Int)) = 1 + (q : Int) * 5 + 1 := by omega
  simp only [e]
theorem markBlobSV_2 (q : Nat) : markBlobSV (q * 5 + 2) = .int .i64 (1 + (q : Int) * 5 + 1 + 1) := by
  unfold markBlobSV
  rw [valBlobS_2]
  have e : (1 + ((q * 5 + 2 : Nat) : Int)) = 1 + (q : Int) * 5 + 1 + 1 := by omega
  simp only [e]
theorem markBlobSV_3 (q : Nat) : markBlobSV (q * 5 + 3) = .int .i64 (1 + (q : Int) * 5 + 1 + 1 + 1) := by
  unfold markBlobSV
  rw [valBlobS_3]
  have e : (1 + ((q * 5 + 3 : Nat) : Int)) = 1 + (q : Int) * 5 + 1 + 1 + 1 := by omega
  simp only [e]
theorem markBlobSV_4 (q : Nat) : markBlobSV (q * 5 + 4) = .bool (decide ((1 + (q : Int) * 5 + 1 + 1 + 1 + 1) % 3 = 0)) := by
  unfold markBlobSV
  rw [valBlobS_4]
  have e : (1 + ((q * 5 + 4 : Nat) : Int)) = 1 + (q : Int) * 5 + 1 + 1 + 1 + 1 := by omega
  simp only [e]
theorem neqBlobS_self (b : Bool) (w : World) : (binOp .neq 4 (.bool b) (.bool b)).run Try.prog w = .ok (.bool false) w := by cases b <;> simp [go_sem]
set_option maxRecDepth 100000 in
theorem eqBlob_same (x0 : Int) (x1 : Int) (x2 : Int) (x3 : Int) (x4 : Bool) (w : World) :
    Calls Try.prog 52 #[.agg #[.int .i64 x0, .int .i64 x1, .int .i64 x2, .int .i64 x3, .bool x4], .agg #[.int .i64 x0, .int .i64 x1, .int .i64 x2, .int .i64 x3, .bool x4]] w fun e w' => e = .returned (.bool true) ∧ Below w.heap.size w w' := by
  go_enter Try.func52, Try.ntmps52
  go_wp2
  go_ret
  exact ⟨rfl, below2 _ _ _⟩
set_option maxHeartbeats 2000000 in
set_option maxRecDepth 100000 in
theorem eqBlobS_any (n lo hi lo' hi' : Nat) (v v' : Value) (fI : Nat → Int) (fB : Nat → Bool) (w : World) (hn : n ≤ 1048576) (h : PRow w 45 5 lo hi n v (valBlobS fI fB)) (h' : PRow w 45 5 lo' hi' n v' (valBlobS fI fB)) :
    Calls Try.prog 36 #[v, v'] w fun e w' => e = .returned (.bool true) ∧ Below w.heap.size w w' := by
  have bare : ∀ (a a' : Option Addr) (c c' : Nat), Calls Try.prog 36 #[.slice a 0 c, .slice a' 0 c'] w fun e w' => e = .returned (.bool true) ∧ Below w.heap.size w w' := by
    intro a a' c c'
    clear h h'
    go_enter Try.func36, Try.ntmps36
    go_wp2_with fail
    refine wp_loop_rounds 1 ?_
    rw [rounds_succ]
    go_wp2_with fail
    go_ret
    exact ⟨rfl, Below.refl _ _⟩
  rcases h with ⟨rfl, a, c, rfl⟩ | ⟨g, c, rfl, _, _, hr⟩
  · rcases h' with ⟨_, a', c', rfl⟩ | ⟨g', c', rfl, _⟩
    · exact bare _ _ _ _
    · exact bare _ _ _ _
  rcases h' with ⟨rfl, a', c', rfl⟩ | ⟨g', c', rfl, _, _, hr'⟩
  · exact bare _ _ _ _
  clear bare
  have HR := hide hr
  have HR' := hide hr'
  clear hr hr'
  go_enter Try.func36, Try.ntmps36
  go_wp2_with fail
  go_loopw [5] (fun i wr => ∃ k : Nat, k ≤ n ∧ i = .int .i64 k ∧ Hid (Below w.heap.size w wr)) (fun i _ => n - (intOf i).toNat)
  case atStart => exact ⟨0, by omega, rfl, hide (Below.refl _ _)⟩
  case round =>
    obtain ⟨k, hk, rfl, HB⟩ := hrel
    by_cases hkn : k < n
    · have hkn2 : (k : Int) < (n : Int) := by omega
      have c0 := ((unhide HR).kept (unhide HB)).cell (j := k * 5) (by omega)
      have d0 := ((unhide HR').kept (unhide HB)).cell (j := k * 5) (by omega)
      rw [valBlobS_0] at c0 d0
      have c1 := ((unhide HR).kept (unhide HB)).cell (j := k * 5 + 1) (by omega)
      have d1 := ((unhide HR').kept (unhide HB)).cell (j := k * 5 + 1) (by omega)
      rw [valBlobS_1] at c1 d1
      have c2 := ((unhide HR).kept (unhide HB)).cell (j := k * 5 + 2) (by omega)
      have d2 := ((unhide HR').kept (unhide HB)).cell (j := k * 5 + 2) (by omega)
      rw [valBlobS_2] at c2 d2
      have c3 := ((unhide HR).kept (unhide HB)).cell (j := k * 5 + 3) (by omega)
      have d3 := ((unhide HR').kept (unhide HB)).cell (j := k * 5 + 3) (by omega)
      rw [valBlobS_3] at c3 d3
      have c4 := ((unhide HR).kept (unhide HB)).cell (j := k * 5 + 4) (by omega)
      have d4 := ((unhide HR').kept (unhide HB)).cell (j := k * 5 + 4) (by omega)
      rw [valBlobS_4] at c4 d4
      generalize fI (k * 5) = x0 at c0 d0
      generalize fI (k * 5 + 1) = x1 at c1 d1
      generalize fI (k * 5 + 2) = x2 at c2 d2
      generalize fI (k * 5 + 3) = x3 at c3 d3
      generalize fB (k * 5 + 4) = x4 at c4 d4
      have r0 := cell_regrown c0
      have t0 := cell_regrown d0
      have r1 := cell_regrown c1
      have t1 := cell_regrown d1
      have r2 := cell_regrown c2
      have t2 := cell_regrown d2
      have r3 := cell_regrown c3
      have t3 := cell_regrown d3
      have r4 := cell_regrown c4
      have t4 := cell_regrown d4
      clear c0 d0 c1 d1 c2 d2 c3 d3 c4 d4
      have cE := hide (fun W => eqBlob_same x0 x1 x2 x3 x4 W)
      go_wp2_with fail
      refine wp_region_quiet_below (by kernel_rfl) (by kernel_rfl) ?_
      repeat (go_big_quiet_step (first | (with_reducible exact Calls.regrown_of (unhide cE _))))
      refine wpQuiet_nil ?_
      intro _ hw'
      obtain ⟨⟨dq, osq⟩, hw''⟩ := hw'
      subst hw''
      have hx := below_call (unhide HB) (below_regrown wr dq osq)
      generalize grow (redrawn wr dq) osq = W2 at hx ⊢
      have HB2 := hide hx
      clear hx cE HB r0 t0 r1 t1 r2 t2 r3 t3 r4 t4
      go_wp2_with fail
      go_roundw
      case rel => exact ⟨k + 1, by omega, by go_num, HB2⟩
      case measure => simp [intOf]; omega
    · have hkn' : k = n := by omega
      subst hkn'
      go_wp2_with fail
      go_ret
      exact ⟨rfl, unhide HB⟩
set_option maxHeartbeats 2000000 in
set_option maxRecDepth 100000 in
theorem markBlobS_any (n lo hi : Nat) (v : Value) (f : Nat → Value) (w : World) (hn : n ≤ 1048576) (h : PRow w 45 5 lo hi n v f) :
    Calls Try.prog 37 #[v, .int .i64 1] w fun e w' => e = .returned (.int .i64 (1 + (n : Int) * 5)) ∧ PRow w' 45 5 lo hi n v markBlobSV ∧ Apart lo hi w w' := by
  rcases h with ⟨rfl, a, c, rfl⟩ | ⟨g, c, rfl, h1, h2, hr⟩
  · go_enter Try.func37, Try.ntmps37
    go_wp2_with fail
    refine wp_loop_rounds 1 ?_
    rw [rounds_succ]
    go_wp2_with fail
    go_ret
    exact ⟨rfl, .inl ⟨rfl, _, _, rfl⟩, Apart.refl _ _ _⟩
  have HR := hide hr
  clear hr
  go_enter Try.func37, Try.ntmps37
  go_wp2_with fail
  go_loopw [1, 5] (fun k i wr => ∃ q : Nat, q ≤ n ∧ i = .int .i64 q ∧ k = .int .i64 (1 + (q : Int) * 5) ∧ Hid (RowV wr 45 g (n * 5) (fun j => if j < q * 5 then markBlobSV j else f j)) ∧ Hid (w.grownBy wr (some g))) (fun _ i _ => n - (intOf i).toNat)
  case atStart => exact ⟨0, by omega, rfl, rfl, hide ((unhide HR).congr (fun j hj => by simp)), hide (gRefl w _)⟩
  case round =>
    obtain ⟨q, hq, rfl, rfl, HO, HG⟩ := hrel
    by_cases hqn : q < n
    · have hqn2 : (q : Int) < (n : Int) := by omega
      have e0 := (unhide HO).cell (j := q * 5) (by omega)
      have f0 := (unhide HO).free (q * 5)
      have e1 := (unhide HO).cell (j := q * 5 + 1) (by omega)
      have f1 := (unhide HO).free (q * 5 + 1)
      have e2 := (unhide HO).cell (j := q * 5 + 2) (by omega)
      have f2 := (unhide HO).free (q * 5 + 2)
      have e3 := (unhide HO).cell (j := q * 5 + 3) (by omega)
      have f3 := (unhide HO).free (q * 5 + 3)
      have e4 := (unhide HO).cell (j := q * 5 + 4) (by omega)
      have f4 := (unhide HO).free (q * 5 + 4)
      rw [if_neg (by omega)] at e0
      rw [if_neg (by omega)] at e1
      rw [if_neg (by omega)] at e2
      rw [if_neg (by omega)] at e3
      rw [if_neg (by omega)] at e4
      have R0 := unhide HO
      have R1 := R0.set (q * 5) (.int .i64 (1 + (q : Int) * 5))
      have R2 := R1.set (q * 5 + 1) (.int .i64 (1 + (q : Int) * 5 + 1))
      have R3 := R2.set (q * 5 + 2) (.int .i64 (1 + (q : Int) * 5 + 1 + 1))
      have R4 := R3.set (q * 5 + 3) (.int .i64 (1 + (q : Int) * 5 + 1 + 1 + 1))
      have R5 := R4.set (q * 5 + 4) (.bool (decide ((1 + (q : Int) * 5 + 1 + 1 + 1 + 1) % 3 = 0)))
      have HO2 : Hid (RowV _ 45 g (n * 5) (fun j => if j < (q + 1) * 5 then markBlobSV j else f j)) := hide (R5.congr (fun j hj => by
        try dsimp only
        by_cases h4 : j = q * 5 + 4
        · subst h4
          rw [if_pos (show q * 5 + 4 < (q + 1) * 5 by omega), markBlobSV_4]
          repeat (first | rw [if_neg (by omega)] | rw [if_pos rfl])
        by_cases h3 : j = q * 5 + 3
        · subst h3
          rw [if_pos (show q * 5 + 3 < (q + 1) * 5 by omega), markBlobSV_3]
          repeat (first | rw [if_neg (by omega)] | rw [if_pos rfl])
        by_cases h2 : j = q * 5 + 2
        · subst h2
          rw [if_pos (show q * 5 + 2 < (q + 1) * 5 by omega), markBlobSV_2]
          repeat (first | rw [if_neg (by omega)] | rw [if_pos rfl])
        by_cases h1 : j = q * 5 + 1
        · subst h1
          rw [if_pos (show q * 5 + 1 < (q + 1) * 5 by omega), markBlobSV_1]
          repeat (first | rw [if_neg (by omega)] | rw [if_pos rfl])
        by_cases h0 : j = q * 5
        · subst h0
          rw [if_pos (show q * 5 < (q + 1) * 5 by omega), markBlobSV_0]
          repeat (first | rw [if_neg (by omega)] | rw [if_pos rfl])
        by_cases hlt : j < q * 5
        · rw [if_neg h4, if_neg h3, if_neg h2, if_neg h1, if_neg h0, if_pos hlt, if_pos (by omega)]
        · rw [if_neg h4, if_neg h3, if_neg h2, if_neg h1, if_neg h0, if_neg hlt, if_neg (by omega)]))
      have HG2 := hide (gSet (gSet (gSet (gSet (gSet (unhide HG) (q * 5) (.int .i64 (1 + (q : Int) * 5))) (q * 5 + 1) (.int .i64 (1 + (q : Int) * 5 + 1))) (q * 5 + 2) (.int .i64 (1 + (q : Int) * 5 + 1 + 1))) (q * 5 + 3) (.int .i64 (1 + (q : Int) * 5 + 1 + 1 + 1))) (q * 5 + 4) (.bool (decide ((1 + (q : Int) * 5 + 1 + 1 + 1 + 1) % 3 = 0))))
      clear R0 R1 R2 R3 R4 R5
      go_wp2_with fail
      go_roundw
      case rel => exact ⟨q + 1, by omega, by go_num, by go_num, HO2, HG2⟩
      case measure => simp [intOf]; omega
    · have hqn' : q = n := by omega
      subst hqn'
      go_wp2_with fail
      go_ret
      exact ⟨rfl, .inr ⟨g, c, rfl, h1, h2, (unhide HO).congr (fun j hj => if_pos hj)⟩, Apart.of (unhide HG) h1 h2⟩
set_option maxHeartbeats 2000000 in
set_option maxRecDepth 100000 in
theorem heldBlobS_any (n lo hi : Nat) (v : Value) (w : World) (hn : n ≤ 1048576) (h : PRow w 45 5 lo hi n v markBlobSV) :
    Calls Try.prog 38 #[v, .int .i64 1] w fun e w' => e = .returned (.int .i64 (1 + (n : Int) * 5)) ∧ w' = w := by
  rcases h with ⟨rfl, a, c, rfl⟩ | ⟨g, c, rfl, h1, h2, hr⟩
  · go_enter Try.func38, Try.ntmps38
    go_wp2_with fail
    refine wp_loop_rounds 1 ?_
    rw [rounds_succ]
    go_wp2_with fail
    go_ret
    exact ⟨rfl, rfl⟩
  have HR := hide hr
  clear hr
  go_enter Try.func38, Try.ntmps38
  go_wp2_with fail
  go_loop [1, 5] (fun k i => ∃ q : Nat, q ≤ n ∧ i = .int .i64 q ∧ k = .int .i64 (1 + (q : Int) * 5)) (fun _ i => n - (intOf i).toNat)
  case atStart => exact ⟨0, by omega, rfl, rfl⟩
  case round =>
    obtain ⟨q, hq, rfl, rfl⟩ := hrel
    by_cases hqn : q < n
    · have hqn2 : (q : Int) < (n : Int) := by omega
      have e0 : w.cell? ⟨g, q * 5, none⟩ = some (.int .i64 (1 + (q : Int) * 5)) := by rw [(unhide HR).cell (j := q * 5) (by omega), markBlobSV_0]
      have e1 : w.cell? ⟨g, q * 5 + 1, none⟩ = some (.int .i64 (1 + (q : Int) * 5 + 1)) := by rw [(unhide HR).cell (j := q * 5 + 1) (by omega), markBlobSV_1]
      have e2 : w.cell? ⟨g, q * 5 + 2, none⟩ = some (.int .i64 (1 + (q : Int) * 5 + 1 + 1)) := by rw [(unhide HR).cell (j := q * 5 + 2) (by omega), markBlobSV_2]
      have e3 : w.cell? ⟨g, q * 5 + 3, none⟩ = some (.int .i64 (1 + (q : Int) * 5 + 1 + 1 + 1)) := by rw [(unhide HR).cell (j := q * 5 + 3) (by omega), markBlobSV_3]
      have e4 : w.cell? ⟨g, q * 5 + 4, none⟩ = some (.bool ((1 + (q : Int) * 5 + 1 + 1 + 1 + 1) % 3 == 0)) := by rw [(unhide HR).cell (j := q * 5 + 4) (by omega), markBlobSV_4]; rfl
      have hb4 := neqBlobS_self ((1 + (q : Int) * 5 + 1 + 1 + 1 + 1) % 3 == 0)
      go_wp2_with fail
      all_goals
        go_round
        case rel => exact ⟨q + 1, by omega, by go_num, by go_num⟩
        case measure => simp [intOf]; omega
    · have hqn' : q = n := by omega
      subst hqn'
      go_wp2_with fail
      go_ret
      exact ⟨rfl, rfl⟩
end Go.Proofs.Yteelpcpkgmcmbaa
