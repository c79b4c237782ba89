/- Lists of impl.Pair: what eqPairS, markPairS and heldPairS do. -/
import Derived.Test.YthmelofbdbplnaaDoorRowV
import Derived.Lib.QuietBelow
import Derived.Deep.QuietTactic
import Derived.BigQuiet
namespace Go.Proofs.YthmelofbdbplnaaDoor
open Go.RowKit Go.Sort
set_option linter.unusedVariables false
def valPairS (fI : Nat → Int) (fB : Nat → Bool) (j : Nat) : Value := .int .i64 (fI j)
def markPairSV (j : Nat) : Value := valPairS (fun j => 1 + (j : Int)) (fun j => decide ((1 + (j : Int)) % 3 = 0)) j
theorem valPairS_0 (fI : Nat → Int) (fB : Nat → Bool) (q : Nat) : valPairS fI fB (q * 2) = .int .i64 (fI (q * 2)) := by unfold valPairS; rfl
theorem valPairS_1 (fI : Nat → Int) (fB : Nat → Bool) (q : Nat) : valPairS fI fB (q * 2 + 1) = .int .i64 (fI (q * 2 + 1)) := by unfold valPairS; rfl
theorem markPairSV_0 (q : Nat) : markPairSV (q * 2) = .int .i64 (1 + (q : Int) * 2) := by
  unfold markPairSV
  rw [valPairS_0]
  have e : (1 + ((q * 2 : Nat) : Int)) = 1 + (q : Int) * 2 := by omega
  simp only [e]
theorem markPairSV_1 (q : Nat) : markPairSV (q * 2 + 1) = .int .i64 (1 + (q : Int) * 2 + 1) := by
  unfold markPairSV
  rw [valPairS_1]
  have e : (1 + ((q * 2 + 1 : Nat) : Int)) = 1 + (q : Int) * 2 + 1 := by omega
  simp only [e]
set_option maxRecDepth 100000 in
theorem eqPair_same (x0 : Int) (x1 : Int) (w : World) :
    Calls Tryd.prog 23 #[.agg #[.int .i64 x0, .int .i64 x1], .agg #[.int .i64 x0, .int .i64 x1]] w fun e w' => e = .returned (.bool true) ∧ Below w.heap.size w w' := by
  go_enter Tryd.func23, Tryd.ntmps23
  go_wp2
  go_ret
  exact ⟨rfl, below2 _ _ _⟩
set_option maxHeartbeats 2000000 in
set_option maxRecDepth 100000 in
theorem eqPairS_any (n lo hi lo' hi' : Nat) (v v' : Value) (fI : Nat → Int) (fB : Nat → Bool) (w : World) (hn : n ≤ 1048576) (h : PRow w 50 2 lo hi n v (valPairS fI fB)) (h' : PRow w 50 2 lo' hi' n v' (valPairS fI fB)) :
    Calls Tryd.prog 9 #[v, v'] w fun e w' => e = .returned (.bool true) ∧ Below w.heap.size w w' := by
  have bare : ∀ (a a' : Option Addr) (c c' : Nat), Calls Tryd.prog 9 #[.slice a 0 c, .slice a' 0 c'] w fun e w' => e = .returned (.bool true) ∧ Below w.heap.size w w' := by
    intro a a' c c'
    clear h h'
    go_enter Tryd.func9, Tryd.ntmps9
    go_wp2_with fail
    refine wp_loop_rounds 1 ?_
    rw [rounds_succ]
    go_wp2_with fail
    go_ret
    exact ⟨rfl, Below.refl _ _⟩
  rcases h with ⟨rfl, a, c, rfl⟩ | ⟨g, c, rfl, _, _, hr⟩
  · rcases h' with ⟨_, a', c', rfl⟩ | ⟨g', c', rfl, _⟩
    · exact bare _ _ _ _
    · exact bare _ _ _ _
  rcases h' with ⟨rfl, a', c', rfl⟩ | ⟨g', c', rfl, _, _, hr'⟩
  · exact bare _ _ _ _
  clear bare
  have HR := hide hr
  have HR' := hide hr'
  clear hr hr'
  go_enter Tryd.func9, Tryd.ntmps9
  go_wp2_with fail
  go_loopw [5] (fun i wr => ∃ k : Nat, k ≤ n ∧ i = .int .i64 k ∧ Hid (Below w.heap.size w wr)) (fun i _ => n - (intOf i).toNat)
  case atStart => exact ⟨0, by omega, rfl, hide (Below.refl _ _)⟩
  case round =>
    obtain ⟨k, hk, rfl, HB⟩ := hrel
    by_cases hkn : k < n
    · have hkn2 : (k : Int) < (n : Int) := by omega
      have c0 := ((unhide HR).kept (unhide HB)).cell (j := k * 2) (by omega)
      have d0 := ((unhide HR').kept (unhide HB)).cell (j := k * 2) (by omega)
      rw [valPairS_0] at c0 d0
      have c1 := ((unhide HR).kept (unhide HB)).cell (j := k * 2 + 1) (by omega)
      have d1 := ((unhide HR').kept (unhide HB)).cell (j := k * 2 + 1) (by omega)
      rw [valPairS_1] at c1 d1
      generalize fI (k * 2) = x0 at c0 d0
      generalize fI (k * 2 + 1) = x1 at c1 d1
      have r0 := cell_regrown c0
      have t0 := cell_regrown d0
      have r1 := cell_regrown c1
      have t1 := cell_regrown d1
      clear c0 d0 c1 d1
      have cE := hide (fun W => eqPair_same x0 x1 W)
      go_wp2_with fail
      refine wp_region_quiet_below (by kernel_rfl) (by kernel_rfl) ?_
      repeat (go_big_quiet_step (first | (with_reducible exact Calls.regrown_of (unhide cE _))))
      refine wpQuiet_nil ?_
      intro _ hw'
      obtain ⟨⟨dq, osq⟩, hw''⟩ := hw'
      subst hw''
      have hx := below_call (unhide HB) (below_regrown wr dq osq)
      generalize grow (redrawn wr dq) osq = W2 at hx ⊢
      have HB2 := hide hx
      clear hx cE HB r0 t0 r1 t1
      go_wp2_with fail
      go_roundw
      case rel => exact ⟨k + 1, by omega, by go_num, HB2⟩
      case measure => simp [intOf]; omega
    · have hkn' : k = n := by omega
      subst hkn'
      go_wp2_with fail
      go_ret
      exact ⟨rfl, unhide HB⟩
set_option maxHeartbeats 2000000 in
set_option maxRecDepth 100000 in
theorem markPairS_any (n lo hi : Nat) (v : Value) (f : Nat → Value) (w : World) (hn : n ≤ 1048576) (h : PRow w 50 2 lo hi n v f) :
    Calls Tryd.prog 12 #[v, .int .i64 1] w fun e w' => e = .returned (.int .i64 (1 + (n : Int) * 2)) ∧ PRow w' 50 2 lo hi n v markPairSV ∧ Apart lo hi w w' := by
  rcases h with ⟨rfl, a, c, rfl⟩ | ⟨g, c, rfl, h1, h2, hr⟩
  · go_enter Tryd.func12, Tryd.ntmps12
    go_wp2_with fail
    refine wp_loop_rounds 1 ?_
    rw [rounds_succ]
    go_wp2_with fail
    go_ret
    exact ⟨rfl, .inl ⟨rfl, _, _, rfl⟩, Apart.refl _ _ _⟩
  have HR := hide hr
  clear hr
  go_enter Tryd.func12, Tryd.ntmps12
  go_wp2_with fail
  go_loopw [1, 5] (fun k i wr => ∃ q : Nat, q ≤ n ∧ i = .int .i64 q ∧ k = .int .i64 (1 + (q : Int) * 2) ∧ Hid (RowV wr 50 g (n * 2) (fun j => if j < q * 2 then markPairSV j else f j)) ∧ Hid (w.grownBy wr (some g))) (fun _ i _ => n - (intOf i).toNat)
  case atStart => exact ⟨0, by omega, rfl, rfl, hide ((unhide HR).congr (fun j hj => by simp)), hide (gRefl w _)⟩
  case round =>
    obtain ⟨q, hq, rfl, rfl, HO, HG⟩ := hrel
    by_cases hqn : q < n
    · have hqn2 : (q : Int) < (n : Int) := by omega
      have e0 := (unhide HO).cell (j := q * 2) (by omega)
      have f0 := (unhide HO).free (q * 2)
      have e1 := (unhide HO).cell (j := q * 2 + 1) (by omega)
      have f1 := (unhide HO).free (q * 2 + 1)
      rw [if_neg (by omega)] at e0
      rw [if_neg (by omega)] at e1
      have R0 := unhide HO
      have R1 := R0.set (q * 2) (.int .i64 (1 + (q : Int) * 2))
      have R2 := R1.set (q * 2 + 1) (.int .i64 (1 + (q : Int) * 2 + 1))
      have HO2 : Hid (RowV _ 50 g (n * 2) (fun j => if j < (q + 1) * 2 then markPairSV j else f j)) := hide (R2.congr (fun j hj => by
        try dsimp only
        by_cases h1 : j = q * 2 + 1
        · subst h1
          rw [if_pos (show q * 2 + 1 < (q + 1) * 2 by omega), markPairSV_1]
          repeat (first | rw [if_neg (by omega)] | rw [if_pos rfl])
        by_cases h0 : j = q * 2
        · subst h0
          rw [if_pos (show q * 2 < (q + 1) * 2 by omega), markPairSV_0]
          repeat (first | rw [if_neg (by omega)] | rw [if_pos rfl])
        by_cases hlt : j < q * 2
        · rw [if_neg h1, if_neg h0, if_pos hlt, if_pos (by omega)]
        · rw [if_neg h1, if_neg h0, if_neg hlt, if_neg (by omega)]))
      have HG2 := hide (gSet (gSet (unhide HG) (q * 2) (.int .i64 (1 + (q : Int) * 2))) (q * 2 + 1) (.int .i64 (1 + (q : Int) * 2 + 1)))
      clear R0 R1 R2
      go_wp2_with fail
      go_roundw
      case rel => exact ⟨q + 1, by omega, by go_num, by go_num, HO2, HG2⟩
      case measure => simp [intOf]; omega
    · have hqn' : q = n := by omega
      subst hqn'
      go_wp2_with fail
      go_ret
      exact ⟨rfl, .inr ⟨g, c, rfl, h1, h2, (unhide HO).congr (fun j hj => if_pos hj)⟩, Apart.of (unhide HG) h1 h2⟩
set_option maxHeartbeats 2000000 in
set_option maxRecDepth 100000 in
theorem heldPairS_any (n lo hi : Nat) (v : Value) (w : World) (hn : n ≤ 1048576) (h : PRow w 50 2 lo hi n v markPairSV) :
    Calls Tryd.prog 13 #[v, .int .i64 1] w fun e w' => e = .returned (.int .i64 (1 + (n : Int) * 2)) ∧ w' = w := by
  rcases h with ⟨rfl, a, c, rfl⟩ | ⟨g, c, rfl, h1, h2, hr⟩
  · go_enter Tryd.func13, Tryd.ntmps13
    go_wp2_with fail
    refine wp_loop_rounds 1 ?_
    rw [rounds_succ]
    go_wp2_with fail
    go_ret
    exact ⟨rfl, rfl⟩
  have HR := hide hr
  clear hr
  go_enter Tryd.func13, Tryd.ntmps13
  go_wp2_with fail
  go_loop [1, 5] (fun k i => ∃ q : Nat, q ≤ n ∧ i = .int .i64 q ∧ k = .int .i64 (1 + (q : Int) * 2)) (fun _ i => n - (intOf i).toNat)
  case atStart => exact ⟨0, by omega, rfl, rfl⟩
  case round =>
    obtain ⟨q, hq, rfl, rfl⟩ := hrel
    by_cases hqn : q < n
    · have hqn2 : (q : Int) < (n : Int) := by omega
      have e0 : w.cell? ⟨g, q * 2, none⟩ = some (.int .i64 (1 + (q : Int) * 2)) := by rw [(unhide HR).cell (j := q * 2) (by omega), markPairSV_0]
      have e1 : w.cell? ⟨g, q * 2 + 1, none⟩ = some (.int .i64 (1 + (q : Int) * 2 + 1)) := by rw [(unhide HR).cell (j := q * 2 + 1) (by omega), markPairSV_1]
      go_wp2_with fail
      go_round
      case rel => exact ⟨q + 1, by omega, by go_num, by go_num⟩
      case measure => simp [intOf]; omega
    · have hqn' : q = n := by omega
      subst hqn'
      go_wp2_with fail
      go_ret
      exact ⟨rfl, rfl⟩
end Go.Proofs.YthmelofbdbplnaaDoor
