/- How a turn is written the one way, and whether one is right: the program's. -/
import Derived.Test.YtnffnjljjecphaaDoorTurnB
import Derived.BigRegion
namespace Go.Proofs.YtnffnjljjecphaaDoor
open Go.RowKit Go.Sort
set_option linter.unusedVariables false

def ptT (a b c d : Int) : Nat → Int
  | 0 => a
  | 1 => b
  | 2 => c
  | _ => d
def gS4 (a b c d : Int) : Nat → Int
  | 0 => 0
  | k + 1 => ((Int.gcd (gS4 a b c d k) (ptT a b c d k) : Nat) : Int)
def fS4 (a b c d : Int) : Nat → Int
  | 0 => 0
  | k + 1 => if fS4 a b c d k = 0 then ptT a b c d k else fS4 a b c d k
theorem ptT_le {m a b c d : Int} (h : inT m a b c d = true) (k : Nat) : -m ≤ ptT a b c d k ∧ ptT a b c d k ≤ m := by
  obtain ⟨h1, h2, h3, h4⟩ := inT_iff.1 h
  match k with
  | 0 => exact h1
  | 1 => exact h2
  | 2 => exact h3
  | _ + 3 => exact h4
theorem gS4_le {a b c d : Int} (h : inT 1000 a b c d = true) (k : Nat) : -1000000 ≤ gS4 a b c d k ∧ gS4 a b c d k ≤ 1000000 := by
  have : 0 ≤ gS4 a b c d k ∧ gS4 a b c d k ≤ 1000 := by
    induction k with
    | zero => exact ⟨by show (0 : Int) ≤ 0; omega, by show (0 : Int) ≤ 1000; omega⟩
    | succ k ih => exact gcd_le (m := 1000) (by omega) (ptT_le h k)
  omega
theorem fS4_all (a b c d : Int) : fS4 a b c d 4 = fT a b c d := by
  unfold fT
  by_cases h1 : a = 0
  · by_cases h2 : b = 0
    · by_cases h3 : c = 0
      · simp [fS4, ptT, h1, h2, h3]
      · simp [fS4, ptT, h1, h2, h3]
    · simp [fS4, ptT, h1, h2]
  · simp [fS4, ptT, h1]
theorem fS4_z {a b c d : Int} {k : Nat} (h : fS4 a b c d k = 0) : fS4 a b c d (k + 1) = ptT a b c d k := by
  show (if fS4 a b c d k = 0 then ptT a b c d k else fS4 a b c d k) = _
  rw [if_pos h]
theorem fS4_n {a b c d : Int} {k : Nat} (h : fS4 a b c d k ≠ 0) : fS4 a b c d (k + 1) = fS4 a b c d k := by
  show (if fS4 a b c d k = 0 then ptT a b c d k else fS4 a b c d k) = _
  rw [if_neg h]

set_option maxHeartbeats 1000000 in
set_option maxRecDepth 100000 in
theorem reduced_any (a b c d : Int) (w : World) (h : inT 1000 a b c d = true) (hz : ¬ (a = 0 ∧ b = 0 ∧ c = 0 ∧ d = 0)) :
    Calls Tryd.prog 101 #[.agg #[.int .i64 a, .int .i64 b, .int .i64 c, .int .i64 d]] w fun e w' => e = .returned (.agg #[.int .i64 (a.tdiv (sT a b c d)), .int .i64 (b.tdiv (sT a b c d)), .int .i64 (c.tdiv (sT a b c d)), .int .i64 (d.tdiv (sT a b c d))]) ∧ Below w.heap.size w w' := by
  have i0 : ∀ w : World, (Instr.index 153 (.agg #[.int .i64 a, .int .i64 b, .int .i64 c, .int .i64 d]) (.int .i64 0)).run Tryd.prog w = .ok (.int .i64 a) w := fun _ => by kernel_rfl
  have i1 : ∀ w : World, (Instr.index 153 (.agg #[.int .i64 a, .int .i64 b, .int .i64 c, .int .i64 d]) (.int .i64 1)).run Tryd.prog w = .ok (.int .i64 b) w := fun _ => by kernel_rfl
  have i2 : ∀ w : World, (Instr.index 153 (.agg #[.int .i64 a, .int .i64 b, .int .i64 c, .int .i64 d]) (.int .i64 2)).run Tryd.prog w = .ok (.int .i64 c) w := fun _ => by kernel_rfl
  have i3 : ∀ w : World, (Instr.index 153 (.agg #[.int .i64 a, .int .i64 b, .int .i64 c, .int .i64 d]) (.int .i64 3)).run Tryd.prog w = .ok (.int .i64 d) w := fun _ => by kernel_rfl
  have HI := hide h
  have HZ := hide hz
  have HW : Hid (∀ (x s : Int), -1000 ≤ x ∧ x ≤ 1000 → wrap64 (x.tdiv s) = x.tdiv s) := hide (fun x s hx => by have := tdiv_le (s := s) hx; exact wrap_id (by omega) (by omega))
  clear h hz
  go_enter Tryd.func101, Tryd.ntmps101
  go_wp2_with fail
  refine (tparts_any a b c d _).mono ?_
  rintro e w1 ⟨rfl, hB1⟩
  have va : TurnAt w1 w.heap.size a b c d := ((turnAt_new w a b c d _).alloc _).kept (by simp; omega) hB1
  have vr : TurnAt w1 (w.heap.size + 1) 0 0 0 0 := (by simpa using turnAt_new (w.alloc _) 0 0 0 0 _ : TurnAt _ (w.heap.size + 1) 0 0 0 0).kept (by simp) hB1
  have fr : FreeT w1 (w.heap.size + 1) := (by simpa using freeT_new (w.alloc _) 0 0 0 0 _ : FreeT _ (w.heap.size + 1)).kept (by simp) hB1
  have hB : Below w.heap.size w w1 := below_call (below2 _ _ _) hB1
  clear hB1
  have Va := hide va
  have Vr := hide vr
  have Fr := hide fr
  have HB := hide hB
  clear va vr fr hB
  go_wp2_with fail
  go_loopw [3, 4, 9] (fun u f i wr => ∃ (k n : Nat), k ≤ 4 ∧ i = .int .i64 k ∧ u = .int .i64 (gS4 a b c d k) ∧ f = .int .i64 (fS4 a b c d k) ∧ wr = w1.drewN n) (fun _ _ i _ => 4 - (intOf i).toNat)
  case atStart => exact ⟨0, 0, by omega, rfl, rfl, rfl, rfl⟩
  case round =>
    obtain ⟨k, n, hk, rfl, rfl, rfl, rfl⟩ := hrel
    have hk5 : k = 0 ∨ k = 1 ∨ k = 2 ∨ k = 3 ∨ k = 4 := by omega
    rcases hk5 with rfl | rfl | rfl | rfl | rfl
    · go_wp2_with fail
      refine (shared_any _ a _ (gS4_le (unhide HI) 0) (by have := ptT_le (unhide HI) 0; simp only [ptT] at this; omega)).mono ?_
      rintro e w3 ⟨rfl, m, rfl⟩
      have hg : ((Int.gcd (gS4 a b c d 0) a : Nat) : Int) = gS4 a b c d 1 := rfl
      rw [hg]
      clear hg
      by_cases hf : fS4 a b c d 0 = 0
      · have HF := hide (fS4_z hf)
        rw [hf]
        clear hf
        go_wp2_with fail
        go_roundw
        case rel => exact ⟨1, n + m, by omega, rfl, rfl, by rw [unhide HF]; rfl, by simp⟩
        case measure => simp [intOf]
      · have HF := hide (fS4_n hf)
        have hb : (fS4 a b c d 0 == 0) = false := by simpa using hf
        clear hf
        go_wp2_with fail
        go_roundw
        case rel => exact ⟨1, n + m, by omega, rfl, rfl, by rw [unhide HF], by simp⟩
        case measure => simp [intOf]
    · go_wp2_with fail
      refine (shared_any _ b _ (gS4_le (unhide HI) 1) (by have := ptT_le (unhide HI) 1; simp only [ptT] at this; omega)).mono ?_
      rintro e w3 ⟨rfl, m, rfl⟩
      have hg : ((Int.gcd (gS4 a b c d 1) b : Nat) : Int) = gS4 a b c d 2 := rfl
      rw [hg]
      clear hg
      by_cases hf : fS4 a b c d 1 = 0
      · have HF := hide (fS4_z hf)
        rw [hf]
        clear hf
        go_wp2_with fail
        go_roundw
        case rel => exact ⟨2, n + m, by omega, rfl, rfl, by rw [unhide HF]; rfl, by simp⟩
        case measure => simp [intOf]
      · have HF := hide (fS4_n hf)
        have hb : (fS4 a b c d 1 == 0) = false := by simpa using hf
        clear hf
        go_wp2_with fail
        go_roundw
        case rel => exact ⟨2, n + m, by omega, rfl, rfl, by rw [unhide HF], by simp⟩
        case measure => simp [intOf]
    · go_wp2_with fail
      refine (shared_any _ c _ (gS4_le (unhide HI) 2) (by have := ptT_le (unhide HI) 2; simp only [ptT] at this; omega)).mono ?_
      rintro e w3 ⟨rfl, m, rfl⟩
      have hg : ((Int.gcd (gS4 a b c d 2) c : Nat) : Int) = gS4 a b c d 3 := rfl
      rw [hg]
      clear hg
      by_cases hf : fS4 a b c d 2 = 0
      · have HF := hide (fS4_z hf)
        rw [hf]
        clear hf
        go_wp2_with fail
        go_roundw
        case rel => exact ⟨3, n + m, by omega, rfl, rfl, by rw [unhide HF]; rfl, by simp⟩
        case measure => simp [intOf]
      · have HF := hide (fS4_n hf)
        have hb : (fS4 a b c d 2 == 0) = false := by simpa using hf
        clear hf
        go_wp2_with fail
        go_roundw
        case rel => exact ⟨3, n + m, by omega, rfl, rfl, by rw [unhide HF], by simp⟩
        case measure => simp [intOf]
    · go_wp2_with fail
      refine (shared_any _ d _ (gS4_le (unhide HI) 3) (by have := ptT_le (unhide HI) 3; simp only [ptT] at this; omega)).mono ?_
      rintro e w3 ⟨rfl, m, rfl⟩
      have hg : ((Int.gcd (gS4 a b c d 3) d : Nat) : Int) = gS4 a b c d 4 := rfl
      rw [hg]
      clear hg
      by_cases hf : fS4 a b c d 3 = 0
      · have HF := hide (fS4_z hf)
        rw [hf]
        clear hf
        go_wp2_with fail
        go_roundw
        case rel => exact ⟨4, n + m, by omega, rfl, rfl, by rw [unhide HF]; rfl, by simp⟩
        case measure => simp [intOf]
      · have HF := hide (fS4_n hf)
        have hb : (fS4 a b c d 3 == 0) = false := by simpa using hf
        clear hf
        go_wp2_with fail
        go_roundw
        case rel => exact ⟨4, n + m, by omega, rfl, rfl, by rw [unhide HF], by simp⟩
        case measure => simp [intOf]
    · have hg : gS4 a b c d 4 = gT a b c d := gcd_four a b c d
      rw [hg, fS4_all]
      clear hg i0 i1 i2 i3
      have hw : wrap64 (-gT a b c d) = -gT a b c d := by have := gS4_le (unhide HI) 4; rw [show gS4 a b c d 4 = gT a b c d from gcd_four a b c d] at this; exact wrap_id (by omega) (by omega)
      have HE : Hid (∀ g, g = sT a b c d → Value.agg #[.int .i64 (wrap64 (a.tdiv g)), .int .i64 (wrap64 (b.tdiv g)), .int .i64 (wrap64 (c.tdiv g)), .int .i64 (wrap64 (d.tdiv g))] = .agg #[.int .i64 (a.tdiv (sT a b c d)), .int .i64 (b.tdiv (sT a b c d)), .int .i64 (c.tdiv (sT a b c d)), .int .i64 (d.tdiv (sT a b c d))]) := hide (by
        rintro g rfl
        obtain ⟨x1, x2, x3, x4⟩ := inT_iff.1 (unhide HI)
        rw [unhide HW _ _ x1, unhide HW _ _ x2, unhide HW _ _ x3, unhide HW _ _ x4])
      have HN : Hid (sT a b c d ≠ 0) := hide (sT_ne (unhide HZ))
      have va : TurnAt (w1.drewN n) w.heap.size a b c d := unhide Va
      have vr : TurnAt (w1.drewN n) (w.heap.size + 1) 0 0 0 0 := unhide Vr
      have fr : FreeT (w1.drewN n) (w.heap.size + 1) := unhide Fr
      have hB : Below w.heap.size w (w1.drewN n) := below_call (unhide HB) (below_drewN _ _)
      clear Va Vr Fr HB HW HI HZ
      by_cases hf : fT a b c d < 0
      · have hs : sT a b c d = -gT a b c d := by unfold sT; rw [if_pos hf]
        have HG := hide hs.symm
        rw [hs] at HN
        go_wp2_with fail
        rw [hw]
        generalize -gT a b c d = g at HN HG ⊢
        clear hw hs hf
        have hne : g ≠ 0 := unhide HN
        have hz0 : (g == 0) = false := by simpa using hne
        generalize w1.drewN n = w3 at va vr fr hB ⊢
        obtain ⟨ca0, ca1, ca2, ca3⟩ := va
        obtain ⟨cr0, cr1, cr2, cr3⟩ := vr
        obtain ⟨fr0, fr1, fr2, fr3⟩ := fr
        go_region
        go_wp2
        exact bodyPost_ret (v := _) (by simp [results, Tryd.results101, go_sem, cr0, cr1, cr2, cr3]) rfl ⟨congrArg _ (unhide HE g (unhide HG)), (below_set4 hB (by omega) _ _ _ _).drew⟩
      · have hs : sT a b c d = gT a b c d := by unfold sT; rw [if_neg hf]
        have HG := hide hs.symm
        rw [hs] at HN
        go_wp2_with fail
        generalize gT a b c d = g at HN HG ⊢
        clear hw hs hf
        have hne : g ≠ 0 := unhide HN
        have hz0 : (g == 0) = false := by simpa using hne
        generalize w1.drewN n = w3 at va vr fr hB ⊢
        obtain ⟨ca0, ca1, ca2, ca3⟩ := va
        obtain ⟨cr0, cr1, cr2, cr3⟩ := vr
        obtain ⟨fr0, fr1, fr2, fr3⟩ := fr
        go_region
        go_wp2
        exact bodyPost_ret (v := _) (by simp [results, Tryd.results101, go_sem, cr0, cr1, cr2, cr3]) rfl ⟨congrArg _ (unhide HE g (unhide HG)), (below_set4 hB (by omega) _ _ _ _).drew⟩

theorem zeroT_false {a b c d : Int} (h : zeroT a b c d = false) : ¬ (a = 0 ∧ b = 0 ∧ c = 0 ∧ d = 0) := fun e => by rw [zeroT_iff.2 e] at h; exact absurd h (by decide)
theorem rightT_zero {a b c d : Int} (h : zeroT a b c d = true) : rightT a b c d = false := by
  cases hr : rightT a b c d
  · rfl
  · exact absurd (zeroT_iff.1 h) (rightT_ne hr)

set_option maxRecDepth 100000 in
theorem turnRight_any (a b c d : Int) (w : World) :
    Calls Tryd.prog 69 #[.agg #[.int .i64 a, .int .i64 b, .int .i64 c, .int .i64 d]] w fun e w' => e = .returned (.bool (rightT a b c d)) ∧ Below w.heap.size w w' := by
  have hn := fun w => neq_turn a b c d 0 0 0 0 w
  have va0 := turnAt_new w a b c d 31
  have hB0 := below1 w (.cells #[.int .i64 a, .int .i64 b, .int .i64 c, .int .i64 d] 31)
  cases hz : eqT a b c d 0 0 0 0
  · rw [hz] at hn
    have HZ := hide (zeroT_false (show zeroT a b c d = false from hz))
    cases h5 : inT 5 a b c d
    · have HR : Hid (rightT a b c d = false) := hide (by rw [rightT, h5]; rfl)
      have cW := hide (fun W => (twithin_any 5 a b c d W (by omega) (by omega)).mono (fun e w' h => (⟨by rw [h.1, h5], h.2⟩ : e = .returned (.bool false) ∧ Below W.heap.size W w')))
      clear h5 hz
      go_enter Tryd.func69, Tryd.ntmps69
      go_wp2_with fail
      generalize w.alloc (.cells #[.int .i64 a, .int .i64 b, .int .i64 c, .int .i64 d] 31) = w1 at va0 hB0 ⊢
      obtain ⟨c0, c1, c2, c3⟩ := va0
      have k0 := cell_regrown c0
      have k1 := cell_regrown c1
      have k2 := cell_regrown c2
      have k3 := cell_regrown c3
      refine wp_region_quiet_below (by kernel_rfl) (by kernel_rfl) ?_
      repeat (quiet_step (exact Calls.regrown_of (unhide cW _)))
      refine wpQuiet_nil ?_
      intro _ hw'
      obtain ⟨⟨dq, osq⟩, hw''⟩ := hw'
      subst hw''
      clear c0 c1 c2 c3 k0 k1 k2 k3 hn
      go_wp2
      go_ret
      exact ⟨by rw [unhide HR]; rfl, below_call hB0 (below_regrown w1 dq osq)⟩
    · have HR := hide (right_reduced (unhide HZ))
      have HT : Hid (rightT a b c d = (decide (0 < fT a b c d) && decide (gT a b c d = 1))) := hide (by rw [rightT, h5, Bool.true_and])
      have cW := hide (fun W => (twithin_any 5 a b c d W (by omega) (by omega)).mono (fun e w' h => (⟨by rw [h.1, h5], h.2⟩ : e = .returned (.bool true) ∧ Below W.heap.size W w')))
      have cR := hide (fun W => reduced_any a b c d W (inT_mono h5 (by omega)) (unhide HZ))
      have he := fun w => eql_turn a b c d (a.tdiv (sT a b c d)) (b.tdiv (sT a b c d)) (c.tdiv (sT a b c d)) (d.tdiv (sT a b c d)) w
      rw [unhide HR] at he
      clear h5 hz HZ HR
      go_enter Tryd.func69, Tryd.ntmps69
      go_wp2_with fail
      generalize w.alloc (.cells #[.int .i64 a, .int .i64 b, .int .i64 c, .int .i64 d] 31) = w1 at va0 hB0 ⊢
      obtain ⟨c0, c1, c2, c3⟩ := va0
      have k0 := cell_regrown c0
      have k1 := cell_regrown c1
      have k2 := cell_regrown c2
      have k3 := cell_regrown c3
      refine wp_region_quiet_below (by kernel_rfl) (by kernel_rfl) ?_
      repeat (quiet_step (first | (with_reducible exact Calls.regrown_of (unhide cW _)) | (with_reducible exact Calls.regrown_of (unhide cR _))))
      refine wpQuiet_nil ?_
      intro _ hw'
      obtain ⟨⟨dq, osq⟩, hw''⟩ := hw'
      subst hw''
      clear c0 c1 c2 c3 k0 k1 k2 k3 hn he
      go_wp2
      go_ret
      exact ⟨by rw [unhide HT]; rfl, below_call hB0 (below_regrown w1 dq osq)⟩
  · rw [hz] at hn
    have HR := hide (rightT_zero (show zeroT a b c d = true from hz))
    clear hz
    go_enter Tryd.func69, Tryd.ntmps69
    go_wp2_with fail
    generalize w.alloc (.cells #[.int .i64 a, .int .i64 b, .int .i64 c, .int .i64 d] 31) = w1 at va0 hB0 ⊢
    obtain ⟨c0, c1, c2, c3⟩ := va0
    have k0 := cell_regrown c0
    have k1 := cell_regrown c1
    have k2 := cell_regrown c2
    have k3 := cell_regrown c3
    refine wp_region_quiet_below (by kernel_rfl) (by kernel_rfl) ?_
    repeat (quiet_step (fail))
    refine wpQuiet_nil ?_
    intro _ hw'
    obtain ⟨⟨dq, osq⟩, hw''⟩ := hw'
    subst hw''
    clear c0 c1 c2 c3 k0 k1 k2 k3 hn
    go_wp2
    go_ret
    exact ⟨by rw [unhide HR]; rfl, below_call hB0 (below_regrown w1 dq osq)⟩

end Go.Proofs.YtnffnjljjecphaaDoor
