/- Lists of strings: what eqStringS, markStringS and heldStringS do. -/
import Derived.Test.YtofpjlhoppofdaaGreatDoorRowV
import Derived.Test.YtofpjlhoppofdaaGreatDoorDecT
import Derived.Lib.QuietBelow
import Derived.Deep.QuietTactic
import Derived.BigQuiet
namespace Go.Proofs.YtofpjlhoppofdaaGreatDoor
open Go.RowKit Go.Sort
set_option linter.unusedVariables false

def strV (f : Nat → ByteArray) (j : Nat) : Value := .string (f j)
/-- what markText makes of k0 and the places behind -/
def mkS (k0 : Nat) (j : Nat) : ByteArray := ⟨#[109]⟩ ++ dG (k0 + j)
theorem gBelow {w w1 w2 : World} {g : Nat} (h : w.grownBy w1 (some g)) (hb : Below w1.heap.size w1 w2) : w.grownBy w2 (some g) :=
  ⟨hb.os.trans h.os, hb.tape.trans h.tape, hb.output.trans h.output, Nat.le_trans h.size hb.size, fun k hk hne => by rw [hb.block k (Nat.lt_of_lt_of_le hk h.size)]; exact h.block k hk hne⟩
theorem str_same (x : ByteArray) : (x.toList == x.toList) = true := by simp

set_option maxHeartbeats 2000000 in
set_option maxRecDepth 100000 in
theorem eqStringS_any (n lo hi lo' hi' : Nat) (v v' : Value) (f : Nat → ByteArray) (w : World) (hn : n ≤ 1048576) (h : PRow w 9 1 lo hi n v (strV f)) (h' : PRow w 9 1 lo' hi' n v' (strV f)) :
    Calls Tryz.prog 10 #[v, v'] w fun e w' => e = .returned (.bool true) ∧ Below w.heap.size w w' := by
  have bare : ∀ (a a' : Option Addr) (c c' : Nat), Calls Tryz.prog 10 #[.slice a 0 c, .slice a' 0 c'] w fun e w' => e = .returned (.bool true) ∧ Below w.heap.size w w' := by
    intro a a' c c'
    clear h h'
    go_enter Tryz.func10, Tryz.ntmps10
    go_wp2_with fail
    refine wp_loop_rounds 1 ?_
    rw [rounds_succ]
    go_wp2_with fail
    go_ret
    exact ⟨rfl, Below.refl _ _⟩
  rcases h with ⟨rfl, a, c, rfl⟩ | ⟨g, c, rfl, _, _, hr⟩
  · rcases h' with ⟨_, a', c', rfl⟩ | ⟨g', c', rfl, _⟩
    · exact bare _ _ _ _
    · exact bare _ _ _ _
  rcases h' with ⟨rfl, a', c', rfl⟩ | ⟨g', c', rfl, _, _, hr'⟩
  · exact bare _ _ _ _
  clear bare
  have HR := hide hr
  have HR' := hide hr'
  clear hr hr'
  go_enter Tryz.func10, Tryz.ntmps10
  go_wp2_with fail
  go_loopw [5] (fun i wr => ∃ k : Nat, k ≤ n ∧ i = .int .i64 k ∧ Hid (Below w.heap.size w wr)) (fun i _ => n - (intOf i).toNat)
  case atStart => exact ⟨0, by omega, rfl, hide (Below.refl _ _)⟩
  case round =>
    obtain ⟨k, hk, rfl, HB⟩ := hrel
    by_cases hkn : k < n
    · have hkn2 : (k : Int) < (n : Int) := by omega
      have c0 := ((unhide HR).kept (unhide HB)).cell (j := k) (by omega)
      have d0 := ((unhide HR').kept (unhide HB)).cell (j := k) (by omega)
      unfold strV at c0 d0
      generalize f k = x at c0 d0
      have hx := str_same x
      go_wp2_with fail
      go_quiet (fail)
      have HB2 := hide ((unhide HB).trans (⟨rfl, rfl, rfl, Nat.le_refl _, fun _ _ => rfl⟩ : Below w.heap.size wr (wr.drewN nq)))
      clear HB c0 d0
      generalize wr.drewN nq = W2 at HB2 ⊢
      go_wp2_with fail
      go_roundw
      case rel => exact ⟨k + 1, by omega, by go_num, HB2⟩
      case measure => simp [intOf]; omega
    · have hkn' : k = n := by omega
      subst hkn'
      go_wp2_with fail
      go_ret
      exact ⟨rfl, unhide HB⟩
set_option maxHeartbeats 2000000 in
set_option maxRecDepth 100000 in
theorem markStringS_any (n k0 lo hi : Nat) (v : Value) (f : Nat → Value) (w : World) (hn : n ≤ 1048576) (hk0 : 1 ≤ k0) (hk9 : k0 ≤ 100000000) (h : PRow w 9 1 lo hi n v f) :
    Calls Tryz.prog 11 #[v, .int .i64 k0] w fun e w' => e = .returned (.int .i64 ((k0 + n : Nat) : Int)) ∧ PRow w' 9 1 lo hi n v (strV (mkS k0)) ∧ Apart lo hi w w' := by
  rcases h with ⟨rfl, a, c, rfl⟩ | ⟨g, c, rfl, h1, h2, hr⟩
  · go_enter Tryz.func11, Tryz.ntmps11
    go_wp2_with fail
    refine wp_loop_rounds 1 ?_
    rw [rounds_succ]
    go_wp2_with fail
    go_ret
    exact ⟨rfl, .inl ⟨rfl, _, _, rfl⟩, Apart.refl _ _ _⟩
  have HR := hide hr
  clear hr
  go_enter Tryz.func11, Tryz.ntmps11
  go_wp2_with fail
  go_loopw [1, 5] (fun k i wr => ∃ q : Nat, q ≤ n ∧ i = .int .i64 q ∧ k = .int .i64 ((k0 + q : Nat) : Int) ∧ Hid (RowV wr 9 g (n * 1) (fun j => if j < q then strV (mkS k0) j else f j)) ∧ Hid (w.grownBy wr (some g))) (fun _ i _ => n - (intOf i).toNat)
  case atStart => exact ⟨0, by omega, rfl, rfl, hide ((unhide HR).congr (fun j hj => by simp)), hide (gRefl w _)⟩
  case round =>
    obtain ⟨q, hq, rfl, rfl, HO, HG⟩ := hrel
    by_cases hqn : q < n
    · have hqn2 : (q : Int) < (n : Int) := by omega
      have cM := hide (markText_any (k0 + q) wr (by omega) (by omega))
      obtain ⟨kq, hkq⟩ : ∃ kq, k0 + q = kq := ⟨_, rfl⟩
      have HQ := hide hkq
      rw [hkq] at cM ⊢
      have hk9' : (kq : Int) ≤ 200000000 := by omega
      have hk1' : kq + 1 = k0 + (q + 1) := by omega
      clear hkq
      go_wp2_with fail
      refine (unhide cM).mono ?_
      rintro e w2 ⟨rfl, hx⟩
      have HG2 := hide (gBelow (unhide HG) hx)
      have O2 := (unhide HO).kept hx
      obtain ⟨t, ht⟩ : ∃ t, (⟨#[109]⟩ ++ dG kq : ByteArray) = t := ⟨_, rfl⟩
      have e0 := O2.cell (j := q) (by omega)
      have f0 := O2.free q
      rw [if_neg (by omega)] at e0
      have R1 := O2.set q (.string t)
      have HO3 : Hid (RowV _ 9 g (n * 1) (fun j => if j < q + 1 then strV (mkS k0) j else f j)) := hide (R1.congr (fun j hj => by
        by_cases h1 : j = q
        · subst h1
          rw [if_pos rfl, if_pos (by omega)]
          unfold strV mkS
          rw [unhide HQ, ht]
        · by_cases hlt : j < q
          · rw [if_neg h1, if_pos hlt, if_pos (by omega)]
          · rw [if_neg h1, if_neg hlt, if_neg (by omega)]))
      have HG3 := hide (gSet (unhide HG2) q (.string t))
      rw [ht]
      clear hx ht O2 R1 HO HG cM HQ HG2
      go_wp2_with fail
      go_roundw
      case rel => exact ⟨q + 1, by omega, by go_num, by rw [← hk1']; go_num, HO3, HG3⟩
      case measure => simp [intOf]; omega
    · have hqn' : q = n := by omega
      subst hqn'
      go_wp2_with fail
      go_ret
      exact ⟨rfl, .inr ⟨g, c, rfl, h1, h2, (unhide HO).congr (fun j hj => if_pos (by omega))⟩, Apart.of (unhide HG) h1 h2⟩
set_option maxHeartbeats 2000000 in
set_option maxRecDepth 100000 in
theorem heldStringS_any (n k0 lo hi : Nat) (v : Value) (w : World) (hn : n ≤ 1048576) (hk0 : 1 ≤ k0) (hk9 : k0 ≤ 100000000) (h : PRow w 9 1 lo hi n v (strV (mkS k0))) :
    Calls Tryz.prog 12 #[v, .int .i64 k0] w fun e w' => e = .returned (.int .i64 ((k0 + n : Nat) : Int)) ∧ Below w.heap.size w w' := by
  rcases h with ⟨rfl, a, c, rfl⟩ | ⟨g, c, rfl, h1, h2, hr⟩
  · go_enter Tryz.func12, Tryz.ntmps12
    go_wp2_with fail
    refine wp_loop_rounds 1 ?_
    rw [rounds_succ]
    go_wp2_with fail
    go_ret
    exact ⟨rfl, Below.refl _ _⟩
  have HR := hide hr
  clear hr
  go_enter Tryz.func12, Tryz.ntmps12
  go_wp2_with fail
  go_loopw [1, 5] (fun k i wr => ∃ q : Nat, q ≤ n ∧ i = .int .i64 q ∧ k = .int .i64 ((k0 + q : Nat) : Int) ∧ Hid (Below w.heap.size w wr)) (fun _ i _ => n - (intOf i).toNat)
  case atStart => exact ⟨0, by omega, rfl, rfl, hide (Below.refl _ _)⟩
  case round =>
    obtain ⟨q, hq, rfl, rfl, HB⟩ := hrel
    by_cases hqn : q < n
    · have hqn2 : (q : Int) < (n : Int) := by omega
      have cM := hide (fun W => markText_any (k0 + q) W (by omega) (by omega))
      have c0 := ((unhide HR).kept (unhide HB)).cell (j := q) (by omega)
      unfold strV mkS at c0
      obtain ⟨kq, hkq⟩ : ∃ kq, k0 + q = kq := ⟨_, rfl⟩
      rw [hkq] at cM c0 ⊢
      have hk9' : (kq : Int) ≤ 200000000 := by omega
      have hk1' : kq + 1 = k0 + (q + 1) := by omega
      clear hkq
      generalize (⟨#[109]⟩ ++ dG kq : ByteArray) = t at cM c0
      have hx := str_same t
      have r0 := cell_regrown c0
      clear c0
      go_wp2_with fail
      refine wp_region_quiet_below (by kernel_rfl) (by kernel_rfl) ?_
      repeat (go_big_quiet_step (first | (with_reducible exact Calls.regrown_of (unhide cM _))))
      refine wpQuiet_nil ?_
      intro _ hw'
      obtain ⟨⟨dq, osq⟩, hw''⟩ := hw'
      subst hw''
      have hx2 := below_call (unhide HB) (below_regrown wr dq osq)
      generalize grow (redrawn wr dq) osq = W2 at hx2 ⊢
      have HB2 := hide hx2
      clear hx2 cM HB r0
      go_wp2_with fail
      go_roundw
      case rel => exact ⟨q + 1, by omega, by go_num, by rw [← hk1']; go_num, HB2⟩
      case measure => simp [intOf]; omega
    · have hqn' : q = n := by omega
      subst hqn'
      go_wp2_with fail
      go_ret
      exact ⟨rfl, unhide HB⟩
end Go.Proofs.YtofpjlhoppofdaaGreatDoor
