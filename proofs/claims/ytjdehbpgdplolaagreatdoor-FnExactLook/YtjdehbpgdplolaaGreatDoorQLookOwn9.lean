/- Several texts in one: TurnC, TurnF, MaA, L7A. -/
import Derived.BigRegion
import Derived.OwnWalk
import Derived.Laws.OwnMore
import Derived.Test.YtjdehbpgdplolaaGreatDoorQLookOwn8
import Derived.Test.YtjdehbpgdplolaaGreatDoorQLookOwn3
import Derived.Test.YtjdehbpgdplolaaGreatDoorQLookOwn2
import Derived.Test.YtjdehbpgdplolaaGreatDoorQLookOwn7
import Derived.Test.YtjdehbpgdplolaaGreatDoorQLookOwn4
import Derived.Test.YtjdehbpgdplolaaGreatDoorQLookOwn5
namespace Go.Proofs.YtjdehbpgdplolaaGreatDoor
open Go.RowKit Go.Sort
set_option linter.unusedVariables false

def ptT (a b c d : Int) : Nat → Int
  | 0 => a
  | 1 => b
  | 2 => c
  | _ => d
def gS4 (a b c d : Int) : Nat → Int
  | 0 => 0
  | k + 1 => ((Int.gcd (gS4 a b c d k) (ptT a b c d k) : Nat) : Int)
def fS4 (a b c d : Int) : Nat → Int
  | 0 => 0
  | k + 1 => if fS4 a b c d k = 0 then ptT a b c d k else fS4 a b c d k
theorem ptT_le {m a b c d : Int} (h : inT m a b c d = true) (k : Nat) : -m ≤ ptT a b c d k ∧ ptT a b c d k ≤ m := by
  obtain ⟨h1, h2, h3, h4⟩ := inT_iff.1 h
  match k with
  | 0 => exact h1
  | 1 => exact h2
  | 2 => exact h3
  | _ + 3 => exact h4
theorem gS4_le {a b c d : Int} (h : inT 1000 a b c d = true) (k : Nat) : -1000000 ≤ gS4 a b c d k ∧ gS4 a b c d k ≤ 1000000 := by
  have : 0 ≤ gS4 a b c d k ∧ gS4 a b c d k ≤ 1000 := by
    induction k with
    | zero => exact ⟨by show (0 : Int) ≤ 0; omega, by show (0 : Int) ≤ 1000; omega⟩
    | succ k ih => exact gcd_le (m := 1000) (by omega) (ptT_le h k)
  omega
theorem fS4_all (a b c d : Int) : fS4 a b c d 4 = fT a b c d := by
  unfold fT
  by_cases h1 : a = 0
  · by_cases h2 : b = 0
    · by_cases h3 : c = 0
      · simp [fS4, ptT, h1, h2, h3]
      · simp [fS4, ptT, h1, h2, h3]
    · simp [fS4, ptT, h1, h2]
  · simp [fS4, ptT, h1]
theorem fS4_z {a b c d : Int} {k : Nat} (h : fS4 a b c d k = 0) : fS4 a b c d (k + 1) = ptT a b c d k := by
  show (if fS4 a b c d k = 0 then ptT a b c d k else fS4 a b c d k) = _
  rw [if_pos h]
theorem fS4_n {a b c d : Int} {k : Nat} (h : fS4 a b c d k ≠ 0) : fS4 a b c d (k + 1) = fS4 a b c d k := by
  show (if fS4 a b c d k = 0 then ptT a b c d k else fS4 a b c d k) = _
  rw [if_neg h]

set_option maxHeartbeats 1000000 in
set_option maxRecDepth 100000 in
theorem reduced_any (a b c d : Int) (w : World) (h : inT 1000 a b c d = true) (hz : ¬ (a = 0 ∧ b = 0 ∧ c = 0 ∧ d = 0)) :
    Calls Tryz.prog 73 #[.agg #[.int .i64 a, .int .i64 b, .int .i64 c, .int .i64 d]] w fun e w' => e = .returned (.agg #[.int .i64 (a.tdiv (sT a b c d)), .int .i64 (b.tdiv (sT a b c d)), .int .i64 (c.tdiv (sT a b c d)), .int .i64 (d.tdiv (sT a b c d))]) ∧ Below w.heap.size w w' := by
  have i0 : ∀ w : World, (Instr.index 127 (.agg #[.int .i64 a, .int .i64 b, .int .i64 c, .int .i64 d]) (.int .i64 0)).run Tryz.prog w = .ok (.int .i64 a) w := fun _ => by kernel_rfl
  have i1 : ∀ w : World, (Instr.index 127 (.agg #[.int .i64 a, .int .i64 b, .int .i64 c, .int .i64 d]) (.int .i64 1)).run Tryz.prog w = .ok (.int .i64 b) w := fun _ => by kernel_rfl
  have i2 : ∀ w : World, (Instr.index 127 (.agg #[.int .i64 a, .int .i64 b, .int .i64 c, .int .i64 d]) (.int .i64 2)).run Tryz.prog w = .ok (.int .i64 c) w := fun _ => by kernel_rfl
  have i3 : ∀ w : World, (Instr.index 127 (.agg #[.int .i64 a, .int .i64 b, .int .i64 c, .int .i64 d]) (.int .i64 3)).run Tryz.prog w = .ok (.int .i64 d) w := fun _ => by kernel_rfl
  have HI := hide h
  have HZ := hide hz
  have HW : Hid (∀ (x s : Int), -1000 ≤ x ∧ x ≤ 1000 → wrap64 (x.tdiv s) = x.tdiv s) := hide (fun x s hx => by have := tdiv_le (s := s) hx; exact wrap_id (by omega) (by omega))
  clear h hz
  go_enter Tryz.func73, Tryz.ntmps73
  go_wp2_with fail
  refine (tparts_any a b c d _).mono ?_
  rintro e w1 ⟨rfl, hB1⟩
  have va : TurnAt w1 w.heap.size a b c d := ((turnAt_new w a b c d _).alloc _).kept (by simp; omega) hB1
  have vr : TurnAt w1 (w.heap.size + 1) 0 0 0 0 := (by simpa using turnAt_new (w.alloc _) 0 0 0 0 _ : TurnAt _ (w.heap.size + 1) 0 0 0 0).kept (by simp) hB1
  have fr : FreeT w1 (w.heap.size + 1) := (by simpa using freeT_new (w.alloc _) 0 0 0 0 _ : FreeT _ (w.heap.size + 1)).kept (by simp) hB1
  have hB : Below w.heap.size w w1 := below_call (below2 _ _ _) hB1
  clear hB1
  have Va := hide va
  have Vr := hide vr
  have Fr := hide fr
  have HB := hide hB
  clear va vr fr hB
  go_wp2_with fail
  go_loopw [3, 4, 9] (fun u f i wr => ∃ (k n : Nat), k ≤ 4 ∧ i = .int .i64 k ∧ u = .int .i64 (gS4 a b c d k) ∧ f = .int .i64 (fS4 a b c d k) ∧ wr = w1.drewN n) (fun _ _ i _ => 4 - (intOf i).toNat)
  case atStart => exact ⟨0, 0, by omega, rfl, rfl, rfl, rfl⟩
  case round =>
    obtain ⟨k, n, hk, rfl, rfl, rfl, rfl⟩ := hrel
    have hk5 : k = 0 ∨ k = 1 ∨ k = 2 ∨ k = 3 ∨ k = 4 := by omega
    rcases hk5 with rfl | rfl | rfl | rfl | rfl
    · go_wp2_with fail
      refine (shared_any _ a _ (gS4_le (unhide HI) 0) (by have := ptT_le (unhide HI) 0; simp only [ptT] at this; omega)).mono ?_
      rintro e w3 ⟨rfl, m, rfl⟩
      have hg : ((Int.gcd (gS4 a b c d 0) a : Nat) : Int) = gS4 a b c d 1 := rfl
      rw [hg]
      clear hg
      by_cases hf : fS4 a b c d 0 = 0
      · have HF := hide (fS4_z hf)
        rw [hf]
        clear hf
        go_wp2_with fail
        go_roundw
        case rel => exact ⟨1, n + m, by omega, rfl, rfl, by rw [unhide HF]; rfl, by simp⟩
        case measure => simp [intOf]
      · have HF := hide (fS4_n hf)
        have hb : (fS4 a b c d 0 == 0) = false := by simpa using hf
        clear hf
        go_wp2_with fail
        go_roundw
        case rel => exact ⟨1, n + m, by omega, rfl, rfl, by rw [unhide HF], by simp⟩
        case measure => simp [intOf]
    · go_wp2_with fail
      refine (shared_any _ b _ (gS4_le (unhide HI) 1) (by have := ptT_le (unhide HI) 1; simp only [ptT] at this; omega)).mono ?_
      rintro e w3 ⟨rfl, m, rfl⟩
      have hg : ((Int.gcd (gS4 a b c d 1) b : Nat) : Int) = gS4 a b c d 2 := rfl
      rw [hg]
      clear hg
      by_cases hf : fS4 a b c d 1 = 0
      · have HF := hide (fS4_z hf)
        rw [hf]
        clear hf
        go_wp2_with fail
        go_roundw
        case rel => exact ⟨2, n + m, by omega, rfl, rfl, by rw [unhide HF]; rfl, by simp⟩
        case measure => simp [intOf]
      · have HF := hide (fS4_n hf)
        have hb : (fS4 a b c d 1 == 0) = false := by simpa using hf
        clear hf
        go_wp2_with fail
        go_roundw
        case rel => exact ⟨2, n + m, by omega, rfl, rfl, by rw [unhide HF], by simp⟩
        case measure => simp [intOf]
    · go_wp2_with fail
      refine (shared_any _ c _ (gS4_le (unhide HI) 2) (by have := ptT_le (unhide HI) 2; simp only [ptT] at this; omega)).mono ?_
      rintro e w3 ⟨rfl, m, rfl⟩
      have hg : ((Int.gcd (gS4 a b c d 2) c : Nat) : Int) = gS4 a b c d 3 := rfl
      rw [hg]
      clear hg
      by_cases hf : fS4 a b c d 2 = 0
      · have HF := hide (fS4_z hf)
        rw [hf]
        clear hf
        go_wp2_with fail
        go_roundw
        case rel => exact ⟨3, n + m, by omega, rfl, rfl, by rw [unhide HF]; rfl, by simp⟩
        case measure => simp [intOf]
      · have HF := hide (fS4_n hf)
        have hb : (fS4 a b c d 2 == 0) = false := by simpa using hf
        clear hf
        go_wp2_with fail
        go_roundw
        case rel => exact ⟨3, n + m, by omega, rfl, rfl, by rw [unhide HF], by simp⟩
        case measure => simp [intOf]
    · go_wp2_with fail
      refine (shared_any _ d _ (gS4_le (unhide HI) 3) (by have := ptT_le (unhide HI) 3; simp only [ptT] at this; omega)).mono ?_
      rintro e w3 ⟨rfl, m, rfl⟩
      have hg : ((Int.gcd (gS4 a b c d 3) d : Nat) : Int) = gS4 a b c d 4 := rfl
      rw [hg]
      clear hg
      by_cases hf : fS4 a b c d 3 = 0
      · have HF := hide (fS4_z hf)
        rw [hf]
        clear hf
        go_wp2_with fail
        go_roundw
        case rel => exact ⟨4, n + m, by omega, rfl, rfl, by rw [unhide HF]; rfl, by simp⟩
        case measure => simp [intOf]
      · have HF := hide (fS4_n hf)
        have hb : (fS4 a b c d 3 == 0) = false := by simpa using hf
        clear hf
        go_wp2_with fail
        go_roundw
        case rel => exact ⟨4, n + m, by omega, rfl, rfl, by rw [unhide HF], by simp⟩
        case measure => simp [intOf]
    · have hg : gS4 a b c d 4 = gT a b c d := gcd_four a b c d
      rw [hg, fS4_all]
      clear hg i0 i1 i2 i3
      have hw : wrap64 (-gT a b c d) = -gT a b c d := by have := gS4_le (unhide HI) 4; rw [show gS4 a b c d 4 = gT a b c d from gcd_four a b c d] at this; exact wrap_id (by omega) (by omega)
      have HE : Hid (∀ g, g = sT a b c d → Value.agg #[.int .i64 (wrap64 (a.tdiv g)), .int .i64 (wrap64 (b.tdiv g)), .int .i64 (wrap64 (c.tdiv g)), .int .i64 (wrap64 (d.tdiv g))] = .agg #[.int .i64 (a.tdiv (sT a b c d)), .int .i64 (b.tdiv (sT a b c d)), .int .i64 (c.tdiv (sT a b c d)), .int .i64 (d.tdiv (sT a b c d))]) := hide (by
        rintro g rfl
        obtain ⟨x1, x2, x3, x4⟩ := inT_iff.1 (unhide HI)
        rw [unhide HW _ _ x1, unhide HW _ _ x2, unhide HW _ _ x3, unhide HW _ _ x4])
      have HN : Hid (sT a b c d ≠ 0) := hide (sT_ne (unhide HZ))
      have va : TurnAt (w1.drewN n) w.heap.size a b c d := unhide Va
      have vr : TurnAt (w1.drewN n) (w.heap.size + 1) 0 0 0 0 := unhide Vr
      have fr : FreeT (w1.drewN n) (w.heap.size + 1) := unhide Fr
      have hB : Below w.heap.size w (w1.drewN n) := below_call (unhide HB) (below_drewN _ _)
      clear Va Vr Fr HB HW HI HZ
      by_cases hf : fT a b c d < 0
      · have hs : sT a b c d = -gT a b c d := by unfold sT; rw [if_pos hf]
        have HG := hide hs.symm
        rw [hs] at HN
        go_wp2_with fail
        rw [hw]
        generalize -gT a b c d = g at HN HG ⊢
        clear hw hs hf
        have hne : g ≠ 0 := unhide HN
        have hz0 : (g == 0) = false := by simpa using hne
        generalize w1.drewN n = w3 at va vr fr hB ⊢
        obtain ⟨ca0, ca1, ca2, ca3⟩ := va
        obtain ⟨cr0, cr1, cr2, cr3⟩ := vr
        obtain ⟨fr0, fr1, fr2, fr3⟩ := fr
        go_region
        go_wp2
        exact bodyPost_ret (v := _) (by simp [results, Tryz.results73, go_sem, cr0, cr1, cr2, cr3]) rfl ⟨congrArg _ (unhide HE g (unhide HG)), (below_set4 hB (by omega) _ _ _ _).drew⟩
      · have hs : sT a b c d = gT a b c d := by unfold sT; rw [if_neg hf]
        have HG := hide hs.symm
        rw [hs] at HN
        go_wp2_with fail
        generalize gT a b c d = g at HN HG ⊢
        clear hw hs hf
        have hne : g ≠ 0 := unhide HN
        have hz0 : (g == 0) = false := by simpa using hne
        generalize w1.drewN n = w3 at va vr fr hB ⊢
        obtain ⟨ca0, ca1, ca2, ca3⟩ := va
        obtain ⟨cr0, cr1, cr2, cr3⟩ := vr
        obtain ⟨fr0, fr1, fr2, fr3⟩ := fr
        go_region
        go_wp2
        exact bodyPost_ret (v := _) (by simp [results, Tryz.results73, go_sem, cr0, cr1, cr2, cr3]) rfl ⟨congrArg _ (unhide HE g (unhide HG)), (below_set4 hB (by omega) _ _ _ _).drew⟩

theorem zeroT_false {a b c d : Int} (h : zeroT a b c d = false) : ¬ (a = 0 ∧ b = 0 ∧ c = 0 ∧ d = 0) := fun e => by rw [zeroT_iff.2 e] at h; exact absurd h (by decide)
theorem rightT_zero {a b c d : Int} (h : zeroT a b c d = true) : rightT a b c d = false := by
  cases hr : rightT a b c d
  · rfl
  · exact absurd (zeroT_iff.1 h) (rightT_ne hr)

set_option maxRecDepth 100000 in
theorem turnRight_any (a b c d : Int) (w : World) :
    Calls Tryz.prog 49 #[.agg #[.int .i64 a, .int .i64 b, .int .i64 c, .int .i64 d]] w fun e w' => e = .returned (.bool (rightT a b c d)) ∧ Below w.heap.size w w' := by
  have hn := fun w => neq_turn a b c d 0 0 0 0 w
  have va0 := turnAt_new w a b c d 31
  have hB0 := below1 w (.cells #[.int .i64 a, .int .i64 b, .int .i64 c, .int .i64 d] 31)
  cases hz : eqT a b c d 0 0 0 0
  · rw [hz] at hn
    have HZ := hide (zeroT_false (show zeroT a b c d = false from hz))
    cases h5 : inT 5 a b c d
    · have HR : Hid (rightT a b c d = false) := hide (by rw [rightT, h5]; rfl)
      have cW := hide (fun W => (twithin_any 5 a b c d W (by omega) (by omega)).mono (fun e w' h => (⟨by rw [h.1, h5], h.2⟩ : e = .returned (.bool false) ∧ Below W.heap.size W w')))
      clear h5 hz
      go_enter Tryz.func49, Tryz.ntmps49
      go_wp2_with fail
      generalize w.alloc (.cells #[.int .i64 a, .int .i64 b, .int .i64 c, .int .i64 d] 31) = w1 at va0 hB0 ⊢
      obtain ⟨c0, c1, c2, c3⟩ := va0
      have k0 := cell_regrown c0
      have k1 := cell_regrown c1
      have k2 := cell_regrown c2
      have k3 := cell_regrown c3
      refine wp_region_quiet_below (by kernel_rfl) (by kernel_rfl) ?_
      repeat (quiet_step (exact Calls.regrown_of (unhide cW _)))
      refine wpQuiet_nil ?_
      intro _ hw'
      obtain ⟨⟨dq, osq⟩, hw''⟩ := hw'
      subst hw''
      clear c0 c1 c2 c3 k0 k1 k2 k3 hn
      go_wp2
      go_ret
      exact ⟨by rw [unhide HR]; rfl, below_call hB0 (below_regrown w1 dq osq)⟩
    · have HR := hide (right_reduced (unhide HZ))
      have HT : Hid (rightT a b c d = (decide (0 < fT a b c d) && decide (gT a b c d = 1))) := hide (by rw [rightT, h5, Bool.true_and])
      have cW := hide (fun W => (twithin_any 5 a b c d W (by omega) (by omega)).mono (fun e w' h => (⟨by rw [h.1, h5], h.2⟩ : e = .returned (.bool true) ∧ Below W.heap.size W w')))
      have cR := hide (fun W => reduced_any a b c d W (inT_mono h5 (by omega)) (unhide HZ))
      have he := fun w => eql_turn a b c d (a.tdiv (sT a b c d)) (b.tdiv (sT a b c d)) (c.tdiv (sT a b c d)) (d.tdiv (sT a b c d)) w
      rw [unhide HR] at he
      clear h5 hz HZ HR
      go_enter Tryz.func49, Tryz.ntmps49
      go_wp2_with fail
      generalize w.alloc (.cells #[.int .i64 a, .int .i64 b, .int .i64 c, .int .i64 d] 31) = w1 at va0 hB0 ⊢
      obtain ⟨c0, c1, c2, c3⟩ := va0
      have k0 := cell_regrown c0
      have k1 := cell_regrown c1
      have k2 := cell_regrown c2
      have k3 := cell_regrown c3
      refine wp_region_quiet_below (by kernel_rfl) (by kernel_rfl) ?_
      repeat (quiet_step (first | (with_reducible exact Calls.regrown_of (unhide cW _)) | (with_reducible exact Calls.regrown_of (unhide cR _))))
      refine wpQuiet_nil ?_
      intro _ hw'
      obtain ⟨⟨dq, osq⟩, hw''⟩ := hw'
      subst hw''
      clear c0 c1 c2 c3 k0 k1 k2 k3 hn he
      go_wp2
      go_ret
      exact ⟨by rw [unhide HT]; rfl, below_call hB0 (below_regrown w1 dq osq)⟩
  · rw [hz] at hn
    have HR := hide (rightT_zero (show zeroT a b c d = true from hz))
    clear hz
    go_enter Tryz.func49, Tryz.ntmps49
    go_wp2_with fail
    generalize w.alloc (.cells #[.int .i64 a, .int .i64 b, .int .i64 c, .int .i64 d] 31) = w1 at va0 hB0 ⊢
    obtain ⟨c0, c1, c2, c3⟩ := va0
    have k0 := cell_regrown c0
    have k1 := cell_regrown c1
    have k2 := cell_regrown c2
    have k3 := cell_regrown c3
    refine wp_region_quiet_below (by kernel_rfl) (by kernel_rfl) ?_
    repeat (quiet_step (fail))
    refine wpQuiet_nil ?_
    intro _ hw'
    obtain ⟨⟨dq, osq⟩, hw''⟩ := hw'
    subst hw''
    clear c0 c1 c2 c3 k0 k1 k2 k3 hn
    go_wp2
    go_ret
    exact ⟨by rw [unhide HR]; rfl, below_call hB0 (below_regrown w1 dq osq)⟩

end Go.Proofs.YtjdehbpgdplolaaGreatDoor

namespace Go.Proofs.YtjdehbpgdplolaaGreatDoor
open Go.RowKit Go.Sort
set_option linter.unusedVariables false

theorem ap_none {a b c d x y z : Int} (h : apR a b c d x y z = false) : Value.agg #[.int .i64 (apI (apR a b c d x y z) (apX a b c d x y z)), .int .i64 (apI (apR a b c d x y z) (apY a b c d x y z)), .int .i64 (apI (apR a b c d x y z) (apZ a b c d x y z))] = Value.agg #[.int .i64 0, .int .i64 0, .int .i64 0] := by
  rw [h]; rfl
theorem ap_some {a b c d x y z : Int} (h : apR a b c d x y z = true) : Value.agg #[.int .i64 (apI (apR a b c d x y z) (apX a b c d x y z)), .int .i64 (apI (apR a b c d x y z) (apY a b c d x y z)), .int .i64 (apI (apR a b c d x y z) (apZ a b c d x y z))] = Value.agg #[.int .i64 (apX a b c d x y z), .int .i64 (apY a b c d x y z), .int .i64 (apZ a b c d x y z)] := by
  rw [h]; rfl
theorem wide_in {x y z : Int} (h : wideB x y z = true) : withinB 1800 x y z = true := by unfold wideB at h; rw [Bool.and_eq_true] at h; exact h.2

set_option maxHeartbeats 1000000 in
set_option maxRecDepth 100000 in
theorem l03Apply_any (a b c d x y z : Int) (w : World) (ht : inT 5 a b c d = true) (hv : withinB 1800 x y z = true) :
    Calls Tryz.prog 66 #[.agg #[.int .i64 a, .int .i64 b, .int .i64 c, .int .i64 d], .agg #[.int .i64 x, .int .i64 y, .int .i64 z]] w fun e w' => e = .returned (.agg #[.int .i64 (apX a b c d x y z), .int .i64 (apY a b c d x y z), .int .i64 (apZ a b c d x y z)]) ∧ Below w.heap.size w w' := by
  have HX := hide (apW_X ht hv)
  have HY := hide (apW_Y ht hv)
  have HZ := hide (apW_Z ht hv)
  clear ht hv
  go_enter Tryz.func66, Tryz.ntmps66
  go_wp2
  rw [unhide HX, unhide HY, unhide HZ]
  exact bodyPost_ret (v := .agg #[.int .i64 (apX a b c d x y z), .int .i64 (apY a b c d x y z), .int .i64 (apZ a b c d x y z)]) (by simp [results, Tryz.results66, go_sem]) rfl ⟨rfl, below3 _ _ _ _⟩

set_option maxHeartbeats 1000000 in
set_option maxRecDepth 100000 in
theorem apply_any (a b c d x y z : Int) (w : World) :
    Calls Tryz.prog 93 #[.agg #[.int .i64 a, .int .i64 b, .int .i64 c, .int .i64 d], .agg #[.int .i64 x, .int .i64 y, .int .i64 z]] w fun e w' => e = .returned (.agg #[.int .i64 (apI (apR a b c d x y z) (apX a b c d x y z)), .int .i64 (apI (apR a b c d x y z) (apY a b c d x y z)), .int .i64 (apI (apR a b c d x y z) (apZ a b c d x y z))]) ∧ Below w.heap.size w w' := by
  go_enter Tryz.func93, Tryz.ntmps93
  go_wp2_with fail
  refine (turnRight_any a b c d _).mono ?_
  rintro e w1 ⟨rfl, hx⟩
  have va : TurnAt w1 w.heap.size a b c d := (((turnAt_new w a b c d _).alloc _).alloc _).kept (by simp; omega) hx
  have vv : VecAt w1 (w.heap.size + 1) x y z := ((by simpa using vecAt_new (w.alloc _) x y z _ : VecAt _ (w.heap.size + 1) x y z).alloc (by simp) _).kept (by simp) hx
  have vr : VecAt w1 (w.heap.size + 1 + 1) 0 0 0 := (by simpa using vecAt_new ((w.alloc _).alloc _) 0 0 0 _ : VecAt _ (w.heap.size + 1 + 1) 0 0 0).kept (by simp) hx
  have fr : FreeAt w1 (w.heap.size + 1 + 1) := (by simpa using freeAt_new ((w.alloc _).alloc _) 0 0 0 _ : FreeAt _ (w.heap.size + 1 + 1)).kept (by simp) hx
  have hs : w.heap.size + 2 < w1.heap.size := by have := hx.size; simp at this; omega
  have hB : Below w.heap.size w w1 := below_call (below3 _ _ _ _) hx
  clear hx
  cases h1 : rightT a b c d
  · have HR := hide (ap_none (a := a) (b := b) (c := c) (d := d) (x := x) (y := y) (z := z) (by rw [apR, h1]; rfl))
    obtain ⟨cr0, cr1, cr2⟩ := vr
    obtain ⟨fr0, fr1, fr2⟩ := fr
    go_wp2_with fail
    exact bodyPost_ret (v := .agg #[.int .i64 0, .int .i64 0, .int .i64 0]) (by simp [results, Tryz.results93, go_sem, cr0, cr1, cr2]) rfl ⟨by rw [unhide HR], below_set3 hB (by omega) _ _ _⟩
  · have wa := va
    have wv := vv
    obtain ⟨ca0, ca1, ca2, ca3⟩ := wa
    obtain ⟨cv0, cv1, cv2⟩ := wv
    go_wp2_with fail
    clear ca0 ca1 ca2 ca3 cv0 cv1 cv2
    refine (isWide_any x y z _).mono ?_
    rintro e w2 ⟨rfl, hx⟩
    replace va := va.kept (by omega) hx
    replace vv := vv.kept (by omega) hx
    replace vr := vr.kept (by omega) hx
    replace fr := fr.kept (by omega) hx
    replace hB := below_call hB hx
    replace hs : w.heap.size + 2 < w2.heap.size := by have := hx.size; omega
    clear hx
    cases h2 : wideB x y z
    · have HR := hide (ap_none (a := a) (b := b) (c := c) (d := d) (x := x) (y := y) (z := z) (by rw [apR, h1, h2]; rfl))
      obtain ⟨cr0, cr1, cr2⟩ := vr
      obtain ⟨fr0, fr1, fr2⟩ := fr
      go_wp2_with fail
      exact bodyPost_ret (v := .agg #[.int .i64 0, .int .i64 0, .int .i64 0]) (by simp [results, Tryz.results93, go_sem, cr0, cr1, cr2]) rfl ⟨by rw [unhide HR], below_set3 hB (by omega) _ _ _⟩
    · have wa := va
      have wv := vv
      obtain ⟨ca0, ca1, ca2, ca3⟩ := wa
      obtain ⟨cv0, cv1, cv2⟩ := wv
      have HR := hide (ap_some (a := a) (b := b) (c := c) (d := d) (x := x) (y := y) (z := z) (by rw [apR, h1, h2]; rfl))
      have HX := hide (apW_X (rightT_iff.1 h1).1 (wide_in h2))
      have HY := hide (apW_Y (rightT_iff.1 h1).1 (wide_in h2))
      have HZ := hide (apW_Z (rightT_iff.1 h1).1 (wide_in h2))
      obtain ⟨cr0, cr1, cr2⟩ := vr
      obtain ⟨fr0, fr1, fr2⟩ := fr
      clear va vv h1 h2
      go_wp2
      go_quiet (fail)
      go_wp2
      go_quiet (fail)
      go_wp2
      go_quiet (fail)
      go_wp2
      rw [unhide HX, unhide HY, unhide HZ]
      exact bodyPost_ret (v := .agg #[.int .i64 (apX a b c d x y z), .int .i64 (apY a b c d x y z), .int .i64 (apZ a b c d x y z)]) (by simp [results, Tryz.results93, go_sem, cr0, cr1, cr2]) rfl ⟨by rw [unhide HR], below_set3 (below_call hB (below_drewN _ _)) (by omega) _ _ _⟩
end Go.Proofs.YtjdehbpgdplolaaGreatDoor

namespace Go.Proofs.YtjdehbpgdplolaaGreatDoor
open Go.RowKit Go.Sort
set_option linter.unusedVariables false

theorem info_i64 : (Tryz.prog.info? 2).map (fun i => (i.zero, i.size, i.bytes)) = some (some (.int .i64 0), 1, 8) := by kernel_rfl
theorem RowV.made {w' : World} {B b n : Nat} {v : Value} {t : TypeId} {c : Nat} {xs : List Value} {f : Nat → Value} (h : w'.ownsRow B t c (.slice (some ⟨b, 0, none⟩) n n) n xs) (hf : ∀ j, j < n * c → xs[j]? = some (f j)) : RowV w' t b (n * c) f := by
  rcases h.2 with ⟨h', _⟩ | ⟨g, cap, cur, hv, _, hg, _, _, _, htake⟩
  · simp at h'
  · simp only [Value.slice.injEq, Option.some.injEq, Addr.mk.injEq, and_true, true_and] at hv
    obtain ⟨rfl, rfl⟩ := hv
    refine ⟨cur, hg, fun j hj => ?_⟩
    have e := hf j hj
    rw [← htake, List.getElem?_take, if_pos hj] at e
    simpa using e
theorem below_grownN {w w' : World} (h : w.grownBy w' none) : Below w.heap.size w w' := ⟨h.os, h.tape, h.output, h.size, fun k hk => h.block k hk (by simp)⟩
/-- what the program's Apply answers of a right turn and a small direction -/
theorem apply_small (a b c d : Int) (v : D3) (w : World) (ht : rightT a b c d = true) (hv : smallB v.1 v.2.1 v.2.2 = true) :
    Calls Tryz.prog 93 #[.agg #[.int .i64 a, .int .i64 b, .int .i64 c, .int .i64 d], .agg #[.int .i64 v.1, .int .i64 v.2.1, .int .i64 v.2.2]] w fun e w' => e = .returned (.agg #[.int .i64 (apD a b c d v).1, .int .i64 (apD a b c d v).2.1, .int .i64 (apD a b c d v).2.2]) ∧ Below w.heap.size w w' := by
  refine (apply_any a b c d v.1 v.2.1 v.2.2 w).mono fun e w' h => ?_
  have hr : apR a b c d v.1 v.2.1 v.2.2 = true := by unfold apR; rw [ht, small_wideB hv]; rfl
  rw [hr] at h
  exact h
theorem TurnAt.same {w w' : World} {b : Nat} {p q r s : Int} (h : TurnAt w b p q r s) (e : w'.heap[b]? = w.heap[b]?) : TurnAt w' b p q r s := by
  obtain ⟨h0, h1, h2, h3⟩ := h
  exact ⟨(World.cell?_of_block (a := ⟨b, _, none⟩) e).trans h0, (World.cell?_of_block (a := ⟨b, _, none⟩) e).trans h1, (World.cell?_of_block (a := ⟨b, _, none⟩) e).trans h2, (World.cell?_of_block (a := ⟨b, _, none⟩) e).trans h3⟩
/-- what lies in memory while the spots are gone through -/
structure MSt (w wr : World) (g m : Nat) (a b c d : Int) (f : Nat → Value) : Prop where
  row : RowV wr 2 g (m * 1) f
  tur : TurnAt wr w.heap.size a b c d
  bel : Below w.heap.size w wr
  lo : w.heap.size < g
theorem MSt.kept {w wr wy : World} {g m : Nat} {a b c d : Int} {f : Nat → Value} (h : MSt w wr g m a b c d f) (hB : Below wr.heap.size wr wy) : MSt w wy g m a b c d f :=
  ⟨h.row.kept hB, h.tur.kept h.tur.lt hB, below_call h.bel hB, h.lo⟩
theorem MSt.set {w wr : World} {g m : Nat} {a b c d : Int} {f : Nat → Value} (h : MSt w wr g m a b c d f) (i : Nat) (v : Value) : MSt w (wr.setCell ⟨g, i, none⟩ v) g m a b c d (fun j => if j = i then v else f j) :=
  ⟨h.row.set i v, h.tur.same (heap_setCell_other wr ⟨g, i, none⟩ w.heap.size v (by have := h.lo; show w.heap.size ≠ g; omega)), h.bel.setCell (by have := h.lo; show w.heap.size ≤ g; omega) _, h.lo⟩
theorem MSt.congr {w wr : World} {g m : Nat} {a b c d : Int} {f f' : Nat → Value} (h : MSt w wr g m a b c d f) (e : ∀ j, j < m → f j = f' j) : MSt w wr g m a b c d f' := ⟨h.row.congr (fun j hj => e j (by omega)), h.tur, h.bel, h.lo⟩
/-- the row while spot i is held against the first k stars -/
def rowM (S : List D3) (fin : D3 → Int) (i : Nat) (x : Int) (j : Nat) : Value := .int .i64 (if j < i then fin (vA S j) else if j = i then x else 0)
set_option maxHeartbeats 4000000 in
set_option maxRecDepth 100000 in
theorem implMatchAt_any (L : List St) (S : List D3) (ar br : Option Addr) (cr dr : Nat) (a b c d : Int) (p : Addr) (w : World) (hn : L.length ≤ 1048576) (hcap : L.length ≤ cr) (hc9 : cr ≤ 9223372036854775807) (hn2 : S.length ≤ 1048576) (hcap2 : S.length ≤ dr) (hd9 : dr ≤ 9223372036854775807) (hS : Stars w ar L L.length) (hD : Dirs w br S S.length) (hE : ErrSky p w) :
    Calls Tryz.prog 78 #[.slice ar L.length cr, .agg #[.int .i64 a, .int .i64 b, .int .i64 c, .int .i64 d], .slice br S.length dr] w fun e w' => (∃ v, e = .returned v ∧ PRow w' 2 1 w.heap.size w'.heap.size (matchL L a b c d S).length v (fun j => .int .i64 ((matchL L a b c d S).getD j 0))) ∧ Below w.heap.size w w' := by
  obtain ⟨i0, hinf, hz0, hz1, hz2⟩ := info_parts info_i64
  have cK := hide (fun (W : World) hW hE => skyRight_any L ar cr p W hn hcap hc9 hW hE)
  have cP := hide (fun (W : World) hW => spotsRight_any S br dr W hn2 hcap2 hd9 hW)
  have H1 : Hid (skyB L = false → matchL L a b c d S = []) := hide match_no1
  have H2 : Hid (rightT a b c d = false → matchL L a b c d S = []) := hide match_no2
  have H3 : Hid (spotsB S = false → matchL L a b c d S = []) := hide match_no3
  have H4 : Hid (skyB L = true → rightT a b c d = true → spotsB S = true → matchL L a b c d S = S.map (fun v => idTo L a b c d v L.length)) := hide match_yes
  have H5 : Hid (skyB L = true → L.length ≤ 12 ∧ ∀ j, j < L.length → smallB (stA L j).2.1 (stA L j).2.2.1 (stA L j).2.2.2 = true) := hide (fun h => ⟨(sky_ok h).1, fun j hj => ok_small ((sky_ok h).2 j hj)⟩)
  have H6 : Hid (spotsB S = true → S.length ≤ 6) := hide (fun h => (spots_ok h).1)
  have HS := hide hS
  have HD := hide hD
  have HE := hide hE
  clear hS hD hE
  generalize matchL L a b c d S = R at *
  generalize hml : S.length = m at *
  have HML := hide hml
  clear hml
  generalize L.length = n at *
  clear hcap hcap2 hc9 hd9
  have T0 := turnAt_new w a b c d 31
  have B0 := below1 w (.cells #[.int .i64 a, .int .i64 b, .int .i64 c, .int .i64 d] 31)
  go_enter Tryz.func78, Tryz.ntmps78
  go_wp2_with fail
  generalize w.alloc (.cells #[.int .i64 a, .int .i64 b, .int .i64 c, .int .i64 d] 31) = W0 at T0 B0 ⊢
  refine (unhide cK _ ((unhide HS).kept B0) ((unhide HE).kept B0)).mono ?_
  rintro e W1 ⟨rfl, hx⟩
  have T1 := T0.kept T0.lt hx
  have B1 := below_call B0 hx
  clear hx T0 B0
  cases hk : skyB L
  · obtain rfl := unhide H1 hk
    go_wp2_with fail
    go_ret
    exact ⟨⟨_, rfl, .inl ⟨rfl, _, _, rfl⟩⟩, B1⟩
  have wT := T1
  obtain ⟨t0, t1, t2, t3⟩ := wT
  go_wp2_with fail
  clear t0 t1 t2 t3
  refine (turnRight_any a b c d _).mono ?_
  rintro e W2 ⟨rfl, hx⟩
  have T2 := T1.kept T1.lt hx
  have B2 := below_call B1 hx
  clear hx T1 B1
  cases hr : rightT a b c d
  · obtain rfl := unhide H2 hr
    go_wp2_with fail
    go_ret
    exact ⟨⟨_, rfl, .inl ⟨rfl, _, _, rfl⟩⟩, B2⟩
  go_wp2_with fail
  refine (unhide cP _ ((unhide HD).kept B2)).mono ?_
  rintro e W3 ⟨rfl, hx⟩
  have T3 := T2.kept T2.lt hx
  have B3 := below_call B2 hx
  clear hx T2 B2
  cases hp : spotsB S
  · obtain rfl := unhide H3 hp
    go_wp2_with fail
    go_ret
    exact ⟨⟨_, rfl, .inl ⟨rfl, _, _, rfl⟩⟩, B3⟩
  have HR := hide (unhide H4 hk hr hp)
  obtain ⟨hn12, hsm⟩ := unhide H5 hk
  have hm6 := unhide H6 hp
  have HSM := hide hsm
  have HRT := hide hr
  clear hsm hk hr hp H1 H2 H3 H4 H5 H6 cK cP
  go_wp2_with (at_make; refine wpList_make_full _ rfl _ _ 74 rfl W3.heap.size 2 i0 (.int .i64 0) 1 Tryz.underlying74 hinf hz0 hz1 .i64 .i64 _ _ m rfl rfl rfl rfl (by rw [hz2]; omega) (by unfold maxLen; omega) (Nat.le_refl _) ?_; intro w0 hown0 hgrow0)
  have hg3 : w.heap.size < W3.heap.size := T3.lt
  have hzero : ∀ j, j < m * 1 → (madeCells (Value.int .i64 0).cells (m * 1)).toList[j]? = some (rowM S (fun v => idTo L a b c d v n) 0 0 j) := by
    intro j hj
    have e : (Value.int .i64 0).cells = #[.int .i64 0] := rfl
    rw [e, toList_madeCells_one]
    have : rowM S (fun v => idTo L a b c d v n) 0 0 j = .int .i64 0 := by unfold rowM; rw [if_neg (by omega)]; split <;> rfl
    rw [this]
    simp at hj
    simp [hj]
  have HM : Hid (MSt w w0 W3.heap.size m a b c d (rowM S (fun v => idTo L a b c d v n) 0 0)) := hide ⟨RowV.made (v := .nilIface) hown0 hzero, T3.kept T3.lt (below_grownN hgrow0), below_call B3 (below_grownN hgrow0), hg3⟩
  clear hzero hown0 hgrow0 T3 B3 hg3
  generalize W3.heap.size = g at *
  clear W3
  go_loopw [30] (fun kk wr => ∃ i : Nat, i ≤ m ∧ kk = .int .i64 i ∧ Hid (MSt w wr g m a b c d (rowM S (fun v => idTo L a b c d v n) i 0))) (fun kk _ => m - (intOf kk).toNat)
  case atStart => exact ⟨0, by omega, rfl, HM⟩
  case round =>
    clear HM
    obtain ⟨i, hi, rfl, HM⟩ := hrel
    by_cases him : i < m
    · have him2 : (i : Int) < (m : Int) := by omega
      rcases unhide HD with h | ⟨bb, bo, rfl, hbb, hbc⟩
      · omega
      have hst := (hbc i him).kept hbb (unhide HM).bel
      clear hbc
      obtain ⟨⟨v1, v2, v3⟩, hv⟩ : ∃ v, vA S i = v := ⟨_, rfl⟩
      rw [hv] at hst
      obtain ⟨c0, c1, c2⟩ := hst
      have HV := hide hv
      clear hv
      have Z := below1 wr (.cells #[.int .i64 v1, .int .i64 v2, .int .i64 v3] 54)
      have HM1 := hide ((unhide HM).kept Z)
      have HV1 := hide (vecAt_new wr v1 v2 v3 54)
      have hvg : g < wr.heap.size := (unhide HM).row.lt
      clear Z HM
      go_wp2_with fail
      clear c0 c1 c2
      generalize wr.alloc (.cells #[.int .i64 v1, .int .i64 v2, .int .i64 v3] 54) = W1 at HM1 HV1 ⊢
      generalize wr.heap.size = vb at *
      rcases unhide HS with h0 | ⟨sb, so, rfl, hsb, hsc⟩
      · subst h0
        refine wp_loop_rounds 1 ?_
        rw [rounds_succ]
        have HM2 : Hid (MSt w W1 g m a b c d (rowM S (fun v => idTo L a b c d v 0) (i + 1) 0)) := hide ((unhide HM1).congr (fun j hj => by
          unfold rowM
          by_cases h : j < i
          · rw [if_pos h, if_pos (by omega)]
          · rw [if_neg h]
            by_cases h2 : j = i
            · rw [if_pos h2, if_pos (by omega)]; rfl
            · rw [if_neg h2, if_neg (by omega)]
              split <;> rfl))
        go_wp2_with fail
        go_roundw
        case rel => exact ⟨i + 1, by omega, by go_num, HM2⟩
        case measure => simp [intOf]; omega
      have HSC := hide hsc
      clear hsc
      go_loopw [37] (fun kk wr => ∃ k : Nat, k ≤ n ∧ kk = .int .i64 k ∧ Hid (MSt w wr g m a b c d (rowM S (fun v => idTo L a b c d v n) i (idTo L a b c d (v1, v2, v3) k))) ∧ Hid (VecAt wr vb v1 v2 v3)) (fun kk _ => n - (intOf kk).toNat)
      case atStart => exact ⟨0, by omega, rfl, HM1, HV1⟩
      case round =>
        clear HM1 HV1
        obtain ⟨k, hk, rfl, HM, HV1⟩ := hrel
        by_cases hkn : k < n
        · have hkn2 : (k : Int) < (n : Int) := by omega
          have hst := (unhide HSC k hkn).kept hsb (unhide HM).bel
          have hsm := unhide HSM k hkn
          have HID : Hid (idTo L a b c d (v1, v2, v3) (k + 1) = if sameD (v1, v2, v3) (apD a b c d (stA L k).2) = true then (stA L k).1 else idTo L a b c d (v1, v2, v3) k) := hide rfl
          obtain ⟨⟨s1, s2, s3, s4⟩, hs⟩ : ∃ s, stA L k = s := ⟨_, rfl⟩
          rw [hs] at hst hsm HID
          clear hs
          obtain ⟨c0, c1, c2, c3⟩ := hst
          have cA := hide (fun W => apply_small a b c d (s2, s3, s4) W (unhide HRT) hsm)
          have HID' : Hid (idTo L a b c d (v1, v2, v3) (k + 1) = if sameD (v1, v2, v3) (apD a b c d (s2, s3, s4)) = true then s1 else idTo L a b c d (v1, v2, v3) k) := HID
          clear HID hsm
          generalize apD a b c d (s2, s3, s4) = q at *
          obtain ⟨q1, q2, q3⟩ := q
          have cS : Hid (∀ W : World, Calls Tryz.prog 76 #[.agg #[.int .i64 v1, .int .i64 v2, .int .i64 v3], .agg #[.int .i64 q1, .int .i64 q2, .int .i64 q3]] W fun e w' => e = .returned (.bool (sameD (v1, v2, v3) (q1, q2, q3))) ∧ Below W.heap.size W w') := hide (fun W => sameWay_any v1 v2 v3 q1 q2 q3 W)
          generalize sameD (v1, v2, v3) (q1, q2, q3) = sm at *
          simp only at cA
          have Z := below1 wr (.cells #[.int .i64 s1, .int .i64 s2, .int .i64 s3, .int .i64 s4] 85)
          have HM2 := hide ((unhide HM).kept Z)
          have HV2 := hide ((unhide HV1).kept (vltD (unhide HV1)) Z)
          have N2 := starAt_new wr (s1, s2, s3, s4) 85
          clear Z HM HV1
          go_wp2_with fail
          clear c0 c1 c2 c3
          generalize wr.alloc (.cells #[.int .i64 s1, .int .i64 s2, .int .i64 s3, .int .i64 s4] 85) = W2 at HM2 HV2 N2 ⊢
          have HN2 := hide N2
          obtain ⟨c0, c1, c2, c3⟩ := N2
          simp only [Nat.zero_add] at c0 c1 c2 c3
          obtain ⟨d0, d1, d2⟩ := unhide HV2
          obtain ⟨e0, e1, e2, e3⟩ := (unhide HM2).tur
          have r0 := cell_regrown c0
          have r1 := cell_regrown c1
          have r2 := cell_regrown c2
          have r3 := cell_regrown c3
          have x0 := cell_regrown d0
          have x1 := cell_regrown d1
          have x2 := cell_regrown d2
          have y0 := cell_regrown e0
          have y1 := cell_regrown e1
          have y2 := cell_regrown e2
          have y3 := cell_regrown e3
          have hsl := World.block_lt_of_cell? _ _ c0
          clear c0 c1 c2 c3 d0 d1 d2 e0 e1 e2 e3
          generalize wr.heap.size = sb2 at *
          refine wp_region_quiet_below (by kernel_rfl) (by kernel_rfl) ?_
          repeat (go_big_quiet_step (first | (with_reducible exact Calls.regrown_of (unhide cA _)) | (with_reducible exact Calls.regrown_of (unhide cS _))))
          refine wpQuiet_nil ?_
          intro _ hw'
          obtain ⟨⟨dq, osq⟩, hw''⟩ := hw'
          subst hw''
          have hx := below_regrown W2 dq osq
          have HM3 := hide ((unhide HM2).kept hx)
          have HV3 := hide ((unhide HV2).kept (vltD (unhide HV2)) hx)
          have N3 := (unhide HN2).kept hsl hx
          generalize grow (redrawn W2 dq) osq = W3 at hx HM3 HV3 N3 ⊢
          clear hx cA cS r0 r1 r2 r3 x0 x1 x2 y0 y1 y2 y3 HM2 HV2 HN2
          cases sm
          · rw [if_neg (by simp)] at HID'
            have HM4 : Hid (MSt w W3 g m a b c d (rowM S (fun v => idTo L a b c d v n) i (idTo L a b c d (v1, v2, v3) (k + 1)))) := hide (by rw [unhide HID']; exact unhide HM3)
            go_wp2_with fail
            go_roundw
            case rel => exact ⟨k + 1, by omega, by go_num, HM4, HV3⟩
            case measure => simp [intOf]; omega
          · rw [if_pos rfl] at HID'
            obtain ⟨c0, c1, c2, c3⟩ := N3
            simp only [Nat.zero_add] at c0 c1 c2 c3
            have f0 := (unhide HM3).row.cell (j := i) (by omega)
            have f1 := (unhide HM3).row.free i
            have HM4 : Hid (MSt w (W3.setCell ⟨g, i, none⟩ (.int .i64 s1)) g m a b c d (rowM S (fun v => idTo L a b c d v n) i (idTo L a b c d (v1, v2, v3) (k + 1)))) := hide (((unhide HM3).set i (.int .i64 s1)).congr (fun j hj => by
              rw [unhide HID']
              unfold rowM
              by_cases h : j = i
              · rw [if_pos h, if_neg (by omega), if_pos h]
              · rw [if_neg h, if_neg h, if_neg h]))
            have HV4 : Hid (VecAt (W3.setCell ⟨g, i, none⟩ (.int .i64 s1)) vb v1 v2 v3) := hide (by
              have e := heap_setCell_other W3 ⟨g, i, none⟩ vb (.int .i64 s1) (by show vb ≠ g; omega)
              obtain ⟨h0, h1, h2⟩ := unhide HV3
              exact ⟨(World.cell?_of_block (a := ⟨vb, _, none⟩) e).trans h0, (World.cell?_of_block (a := ⟨vb, _, none⟩) e).trans h1, (World.cell?_of_block (a := ⟨vb, _, none⟩) e).trans h2⟩)
            clear HM3 HV3
            go_wp2_with fail
            go_roundw
            case rel => exact ⟨k + 1, by omega, by go_num, HM4, HV4⟩
            case measure => simp [intOf]; omega
        · have hkn' : k = n := by omega
          have HM2 : Hid (MSt w wr g m a b c d (rowM S (fun v => idTo L a b c d v n) (i + 1) 0)) := hide ((unhide HM).congr (fun j hj => by
            unfold rowM
            by_cases h : j < i
            · rw [if_pos h, if_pos (by omega)]
            · rw [if_neg h]
              by_cases h2 : j = i
              · rw [if_pos h2, if_pos (by omega), h2, unhide HV, hkn']
              · rw [if_neg h2, if_neg (by omega)]
                split <;> rfl))
          clear HM
          go_wp2_with fail
          go_roundw
          case rel => exact ⟨i + 1, by omega, by go_num, HM2⟩
          case measure => simp [intOf]; omega
    · have him' : i = m := by omega
      subst him'
      have HP : Hid (PRow wr 2 1 w.heap.size wr.heap.size R.length (.slice (some ⟨g, 0, none⟩) i i) (fun j => .int .i64 (R.getD j 0))) := hide (by
        have hl : R.length = i := by rw [unhide HR, List.length_map]; exact unhide HML
        rw [hl]
        refine .inr ⟨g, i, rfl, Nat.le_of_lt (unhide HM).lo, (unhide HM).row.lt, (unhide HM).row.congr (fun j hj => ?_)⟩
        have hj' : j < S.length := by rw [unhide HML]; omega
        unfold rowM
        rw [if_pos (by omega), unhide HR, List.getD_eq_getElem?_getD, List.getElem?_map, List.getElem?_eq_getElem hj']
        unfold vA
        rw [List.getD_eq_getElem?_getD, List.getElem?_eq_getElem hj']
        rfl)
      go_wp2_with fail
      go_ret
      exact ⟨⟨_, rfl, unhide HP⟩, (unhide HM).bel⟩
end Go.Proofs.YtjdehbpgdplolaaGreatDoor

namespace Go.Proofs.YtjdehbpgdplolaaGreatDoor
open Go.RowKit Go.Sort
set_option linter.unusedVariables false

theorem rowOfStars {w : World} {b n : Nat} {L : List St} (h : OwnS w b n L n) : ∃ f, RowAt w 85 b (n * 4) f := by
  obtain ⟨cur, hc, hn, hs⟩ := h
  refine ⟨fun j => match cur[j]? with | some (.int _ v) => v | _ => 0, cur, hc, fun j hj => ?_⟩
  obtain ⟨h0, h1, h2, h3⟩ := hs (j / 4) (by omega)
  have hm : j = j / 4 * 4 ∨ j = j / 4 * 4 + 1 ∨ j = j / 4 * 4 + 2 ∨ j = j / 4 * 4 + 3 := by omega
  have e : ∃ z : Int, cur[j]? = some (.int .i64 z) := by
    rcases hm with e | e | e | e
    · exact ⟨_, by rw [e]; exact h0⟩
    · exact ⟨_, by rw [e]; exact h1⟩
    · exact ⟨_, by rw [e]; exact h2⟩
    · exact ⟨_, by rw [e]; exact h3⟩
  obtain ⟨z, hz⟩ := e
  simp only [hz]
theorem rowOfDirs {w : World} {b n : Nat} {L : List D3} (h : OwnD w b n L n) : ∃ f, RowV w 54 b (n * 3) f := by
  obtain ⟨cur, hc, hn, hs⟩ := h
  refine ⟨fun j => cur.getD j .nilIface, cur, hc, fun j hj => ?_⟩
  simp [Array.getD, show j < cur.size by omega]
set_option maxRecDepth 100000 in
theorem toTurn7 (p q r s : Int) (w : World) :
    Calls Tryz.prog 23 #[.agg #[.int .i64 p, .int .i64 q, .int .i64 r, .int .i64 s]] w fun e w' => e = .returned (.agg #[.int .i64 p, .int .i64 q, .int .i64 r, .int .i64 s]) ∧ Below w.heap.size w w' := by
  go_enter Tryz.func23, Tryz.ntmps23
  go_wp2
  exact bodyPost_ret (v := .agg #[.int .i64 p, .int .i64 q, .int .i64 r, .int .i64 s]) (by simp [results, Tryz.results23, go_sem]) rfl ⟨rfl, below3 _ _ _ _⟩
set_option maxHeartbeats 2000000 in
set_option maxRecDepth 100000 in
theorem markVecS_from (n c g : Nat) (K : Int) (f : Nat → Value) (w : World) (hn : n ≤ 1048576) (hK0 : 0 ≤ K) (hK1 : K ≤ 100000000) (hR : RowV w 54 g (n * 3) f) :
    Calls Tryz.prog 14 #[.slice (some ⟨g, 0, none⟩) n c, .int .i64 K] w fun e w' => e = .returned (.int .i64 (K + (n : Int) * 3)) ∧ w.grownBy w' (some g) := by
  have HR := hide hR
  clear hR
  go_enter Tryz.func14, Tryz.ntmps14
  go_wp2_with fail
  go_loopw [1, 5] (fun k i wr => ∃ q : Nat, q ≤ n ∧ i = .int .i64 q ∧ k = .int .i64 (K + (q : Int) * 3) ∧ Hid (∃ f, RowV wr 54 g (n * 3) f) ∧ Hid (w.grownBy wr (some g))) (fun _ i _ => n - (intOf i).toNat)
  case atStart => exact ⟨0, by omega, rfl, by simp, hide ⟨_, unhide HR⟩, hide (gRefl w _)⟩
  case round =>
    obtain ⟨q, hq, rfl, rfl, HO, HG⟩ := hrel
    by_cases hqn : q < n
    · have hqn2 : (q : Int) < (n : Int) := by omega
      obtain ⟨f1, hr⟩ := unhide HO
      have e0 := hr.cell (j := q * 3) (by omega)
      have f0 := hr.free (q * 3)
      have e1 := hr.cell (j := q * 3 + 1) (by omega)
      have f1' := hr.free (q * 3 + 1)
      have e2 := hr.cell (j := q * 3 + 2) (by omega)
      have f2 := hr.free (q * 3 + 2)
      have R1 := hr.set (q * 3) (.int .i64 (K + (q : Int) * 3))
      have R2 := R1.set (q * 3 + 1) (.int .i64 (K + (q : Int) * 3 + 1))
      have R3 := R2.set (q * 3 + 2) (.int .i64 (K + (q : Int) * 3 + 1 + 1))
      have HO2 : Hid (∃ f, RowV _ 54 g (n * 3) f) := hide ⟨_, R3⟩
      have HG2 := hide (gSet (gSet (gSet (unhide HG) (q * 3) (.int .i64 (K + (q : Int) * 3))) (q * 3 + 1) (.int .i64 (K + (q : Int) * 3 + 1))) (q * 3 + 2) (.int .i64 (K + (q : Int) * 3 + 1 + 1)))
      clear R1 R2 R3 hr HO HG
      go_wp2_with fail
      go_roundw
      case rel => exact ⟨q + 1, by omega, by go_num, by go_num, HO2, HG2⟩
      case measure => simp [intOf]; omega
    · have hqn' : q = n := by omega
      subst hqn'
      go_wp2_with fail
      go_ret
      exact ⟨rfl, unhide HG⟩
/-- the first n numbers of ids lie at a -/
def Nums (w : World) (a : Option Addr) (ids : List Int) (n : Nat) : Prop := n = 0 ∨ ∃ b o, a = some ⟨b, o, none⟩ ∧ b < w.heap.size ∧ ∀ i, i < n → w.cell? ⟨b, o + i, none⟩ = some (.int .i64 (ids.getD i 0))
theorem Nums.kept {w w' : World} {a : Option Addr} {L : List Int} {n : Nat} (h : Nums w a L n) (hB : Below w.heap.size w w') : Nums w' a L n := by
  rcases h with h | ⟨b, o, ha, hb, hc⟩
  · exact .inl h
  · exact .inr ⟨b, o, ha, Nat.lt_of_lt_of_le hb hB.size, fun i hi => by rw [hB.cell (p := ⟨b, o + i, none⟩) hb]; exact hc i hi⟩
def numV (ids : List Int) (j : Nat) : Value := .int .i64 (ids.getD j 0)
theorem nums_of {w : World} {g n : Nat} {ids : List Int} (h : RowV w 2 g (n * 1) (numV ids)) : Nums w (some ⟨g, 0, none⟩) ids n :=
  .inr ⟨g, 0, rfl, h.lt, fun i hi => by rw [Nat.zero_add]; exact h.cell (by omega)⟩
theorem prow_of {w : World} {t : TypeId} {g n c : Nat} {f : Nat → Value} (h : RowV w t g (n * c) f) (cap : Nat) : PRow w t c 0 w.heap.size n (.slice (some ⟨g, 0, none⟩) n cap) f := .inr ⟨g, cap, rfl, Nat.zero_le _, h.lt, h⟩
end Go.Proofs.YtjdehbpgdplolaaGreatDoor
