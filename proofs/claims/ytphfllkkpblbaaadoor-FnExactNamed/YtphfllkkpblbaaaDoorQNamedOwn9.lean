/- Several texts in one: TurnC, TurnF, MaA, L7A, TsA. -/
import Derived.BigRegion
import Derived.OwnWalk
import Derived.Laws.OwnMore
import Derived.Test.YtphfllkkpblbaaaDoorQNamedOwn8
import Derived.Test.YtphfllkkpblbaaaDoorQNamedOwn3
import Derived.Test.YtphfllkkpblbaaaDoorQNamedOwn2
import Derived.Test.YtphfllkkpblbaaaDoorQNamedOwn7
import Derived.Test.YtphfllkkpblbaaaDoorQNamedOwn4
import Derived.Test.YtphfllkkpblbaaaDoorQNamedOwn5
namespace Go.Proofs.YtphfllkkpblbaaaDoor
open Go.RowKit Go.Sort
set_option linter.unusedVariables false

def ptT (a b c d : Int) : Nat → Int
  | 0 => a
  | 1 => b
  | 2 => c
  | _ => d
def gS4 (a b c d : Int) : Nat → Int
  | 0 => 0
  | k + 1 => ((Int.gcd (gS4 a b c d k) (ptT a b c d k) : Nat) : Int)
def fS4 (a b c d : Int) : Nat → Int
  | 0 => 0
  | k + 1 => if fS4 a b c d k = 0 then ptT a b c d k else fS4 a b c d k
theorem ptT_le {m a b c d : Int} (h : inT m a b c d = true) (k : Nat) : -m ≤ ptT a b c d k ∧ ptT a b c d k ≤ m := by
  obtain ⟨h1, h2, h3, h4⟩ := inT_iff.1 h
  match k with
  | 0 => exact h1
  | 1 => exact h2
  | 2 => exact h3
  | _ + 3 => exact h4
theorem gS4_le {a b c d : Int} (h : inT 1000 a b c d = true) (k : Nat) : -1000000 ≤ gS4 a b c d k ∧ gS4 a b c d k ≤ 1000000 := by
  have : 0 ≤ gS4 a b c d k ∧ gS4 a b c d k ≤ 1000 := by
    induction k with
    | zero => exact ⟨by show (0 : Int) ≤ 0; omega, by show (0 : Int) ≤ 1000; omega⟩
    | succ k ih => exact gcd_le (m := 1000) (by omega) (ptT_le h k)
  omega
theorem fS4_all (a b c d : Int) : fS4 a b c d 4 = fT a b c d := by
  unfold fT
  by_cases h1 : a = 0
  · by_cases h2 : b = 0
    · by_cases h3 : c = 0
      · simp [fS4, ptT, h1, h2, h3]
      · simp [fS4, ptT, h1, h2, h3]
    · simp [fS4, ptT, h1, h2]
  · simp [fS4, ptT, h1]
theorem fS4_z {a b c d : Int} {k : Nat} (h : fS4 a b c d k = 0) : fS4 a b c d (k + 1) = ptT a b c d k := by
  show (if fS4 a b c d k = 0 then ptT a b c d k else fS4 a b c d k) = _
  rw [if_pos h]
theorem fS4_n {a b c d : Int} {k : Nat} (h : fS4 a b c d k ≠ 0) : fS4 a b c d (k + 1) = fS4 a b c d k := by
  show (if fS4 a b c d k = 0 then ptT a b c d k else fS4 a b c d k) = _
  rw [if_neg h]

set_option maxHeartbeats 1000000 in
set_option maxRecDepth 100000 in
theorem reduced_any (a b c d : Int) (w : World) (h : inT 1000 a b c d = true) (hz : ¬ (a = 0 ∧ b = 0 ∧ c = 0 ∧ d = 0)) :
    Calls Tryd.prog 69 #[.agg #[.int .i64 a, .int .i64 b, .int .i64 c, .int .i64 d]] w fun e w' => e = .returned (.agg #[.int .i64 (a.tdiv (sT a b c d)), .int .i64 (b.tdiv (sT a b c d)), .int .i64 (c.tdiv (sT a b c d)), .int .i64 (d.tdiv (sT a b c d))]) ∧ Below w.heap.size w w' := by
  have i0 : ∀ w : World, (Instr.index 115 (.agg #[.int .i64 a, .int .i64 b, .int .i64 c, .int .i64 d]) (.int .i64 0)).run Tryd.prog w = .ok (.int .i64 a) w := fun _ => by kernel_rfl
  have i1 : ∀ w : World, (Instr.index 115 (.agg #[.int .i64 a, .int .i64 b, .int .i64 c, .int .i64 d]) (.int .i64 1)).run Tryd.prog w = .ok (.int .i64 b) w := fun _ => by kernel_rfl
  have i2 : ∀ w : World, (Instr.index 115 (.agg #[.int .i64 a, .int .i64 b, .int .i64 c, .int .i64 d]) (.int .i64 2)).run Tryd.prog w = .ok (.int .i64 c) w := fun _ => by kernel_rfl
  have i3 : ∀ w : World, (Instr.index 115 (.agg #[.int .i64 a, .int .i64 b, .int .i64 c, .int .i64 d]) (.int .i64 3)).run Tryd.prog w = .ok (.int .i64 d) w := fun _ => by kernel_rfl
  have HI := hide h
  have HZ := hide hz
  have HW : Hid (∀ (x s : Int), -1000 ≤ x ∧ x ≤ 1000 → wrap64 (x.tdiv s) = x.tdiv s) := hide (fun x s hx => by have := tdiv_le (s := s) hx; exact wrap_id (by omega) (by omega))
  clear h hz
  go_enter Tryd.func69, Tryd.ntmps69
  go_wp2_with fail
  refine (tparts_any a b c d _).mono ?_
  rintro e w1 ⟨rfl, hB1⟩
  have va : TurnAt w1 w.heap.size a b c d := ((turnAt_new w a b c d _).alloc _).kept (by simp; omega) hB1
  have vr : TurnAt w1 (w.heap.size + 1) 0 0 0 0 := (by simpa using turnAt_new (w.alloc _) 0 0 0 0 _ : TurnAt _ (w.heap.size + 1) 0 0 0 0).kept (by simp) hB1
  have fr : FreeT w1 (w.heap.size + 1) := (by simpa using freeT_new (w.alloc _) 0 0 0 0 _ : FreeT _ (w.heap.size + 1)).kept (by simp) hB1
  have hB : Below w.heap.size w w1 := below_call (below2 _ _ _) hB1
  clear hB1
  have Va := hide va
  have Vr := hide vr
  have Fr := hide fr
  have HB := hide hB
  clear va vr fr hB
  go_wp2_with fail
  go_loopw [3, 4, 9] (fun u f i wr => ∃ (k n : Nat), k ≤ 4 ∧ i = .int .i64 k ∧ u = .int .i64 (gS4 a b c d k) ∧ f = .int .i64 (fS4 a b c d k) ∧ wr = w1.drewN n) (fun _ _ i _ => 4 - (intOf i).toNat)
  case atStart => exact ⟨0, 0, by omega, rfl, rfl, rfl, rfl⟩
  case round =>
    obtain ⟨k, n, hk, rfl, rfl, rfl, rfl⟩ := hrel
    have hk5 : k = 0 ∨ k = 1 ∨ k = 2 ∨ k = 3 ∨ k = 4 := by omega
    rcases hk5 with rfl | rfl | rfl | rfl | rfl
    · go_wp2_with fail
      refine (shared_any _ a _ (gS4_le (unhide HI) 0) (by have := ptT_le (unhide HI) 0; simp only [ptT] at this; omega)).mono ?_
      rintro e w3 ⟨rfl, m, rfl⟩
      have hg : ((Int.gcd (gS4 a b c d 0) a : Nat) : Int) = gS4 a b c d 1 := rfl
      rw [hg]
      clear hg
      by_cases hf : fS4 a b c d 0 = 0
      · have HF := hide (fS4_z hf)
        rw [hf]
        clear hf
        go_wp2_with fail
        go_roundw
        case rel => exact ⟨1, n + m, by omega, rfl, rfl, by rw [unhide HF]; rfl, by simp⟩
        case measure => simp [intOf]
      · have HF := hide (fS4_n hf)
        have hb : (fS4 a b c d 0 == 0) = false := by simpa using hf
        clear hf
        go_wp2_with fail
        go_roundw
        case rel => exact ⟨1, n + m, by omega, rfl, rfl, by rw [unhide HF], by simp⟩
        case measure => simp [intOf]
    · go_wp2_with fail
      refine (shared_any _ b _ (gS4_le (unhide HI) 1) (by have := ptT_le (unhide HI) 1; simp only [ptT] at this; omega)).mono ?_
      rintro e w3 ⟨rfl, m, rfl⟩
      have hg : ((Int.gcd (gS4 a b c d 1) b : Nat) : Int) = gS4 a b c d 2 := rfl
      rw [hg]
      clear hg
      by_cases hf : fS4 a b c d 1 = 0
      · have HF := hide (fS4_z hf)
        rw [hf]
        clear hf
        go_wp2_with fail
        go_roundw
        case rel => exact ⟨2, n + m, by omega, rfl, rfl, by rw [unhide HF]; rfl, by simp⟩
        case measure => simp [intOf]
      · have HF := hide (fS4_n hf)
        have hb : (fS4 a b c d 1 == 0) = false := by simpa using hf
        clear hf
        go_wp2_with fail
        go_roundw
        case rel => exact ⟨2, n + m, by omega, rfl, rfl, by rw [unhide HF], by simp⟩
        case measure => simp [intOf]
    · go_wp2_with fail
      refine (shared_any _ c _ (gS4_le (unhide HI) 2) (by have := ptT_le (unhide HI) 2; simp only [ptT] at this; omega)).mono ?_
      rintro e w3 ⟨rfl, m, rfl⟩
      have hg : ((Int.gcd (gS4 a b c d 2) c : Nat) : Int) = gS4 a b c d 3 := rfl
      rw [hg]
      clear hg
      by_cases hf : fS4 a b c d 2 = 0
      · have HF := hide (fS4_z hf)
        rw [hf]
        clear hf
        go_wp2_with fail
        go_roundw
        case rel => exact ⟨3, n + m, by omega, rfl, rfl, by rw [unhide HF]; rfl, by simp⟩
        case measure => simp [intOf]
      · have HF := hide (fS4_n hf)
        have hb : (fS4 a b c d 2 == 0) = false := by simpa using hf
        clear hf
        go_wp2_with fail
        go_roundw
        case rel => exact ⟨3, n + m, by omega, rfl, rfl, by rw [unhide HF], by simp⟩
        case measure => simp [intOf]
    · go_wp2_with fail
      refine (shared_any _ d _ (gS4_le (unhide HI) 3) (by have := ptT_le (unhide HI) 3; simp only [ptT] at this; omega)).mono ?_
      rintro e w3 ⟨rfl, m, rfl⟩
      have hg : ((Int.gcd (gS4 a b c d 3) d : Nat) : Int) = gS4 a b c d 4 := rfl
      rw [hg]
      clear hg
      by_cases hf : fS4 a b c d 3 = 0
      · have HF := hide (fS4_z hf)
        rw [hf]
        clear hf
        go_wp2_with fail
        go_roundw
        case rel => exact ⟨4, n + m, by omega, rfl, rfl, by rw [unhide HF]; rfl, by simp⟩
        case measure => simp [intOf]
      · have HF := hide (fS4_n hf)
        have hb : (fS4 a b c d 3 == 0) = false := by simpa using hf
        clear hf
        go_wp2_with fail
        go_roundw
        case rel => exact ⟨4, n + m, by omega, rfl, rfl, by rw [unhide HF], by simp⟩
        case measure => simp [intOf]
    · have hg : gS4 a b c d 4 = gT a b c d := gcd_four a b c d
      rw [hg, fS4_all]
      clear hg i0 i1 i2 i3
      have hw : wrap64 (-gT a b c d) = -gT a b c d := by have := gS4_le (unhide HI) 4; rw [show gS4 a b c d 4 = gT a b c d from gcd_four a b c d] at this; exact wrap_id (by omega) (by omega)
      have HE : Hid (∀ g, g = sT a b c d → Value.agg #[.int .i64 (wrap64 (a.tdiv g)), .int .i64 (wrap64 (b.tdiv g)), .int .i64 (wrap64 (c.tdiv g)), .int .i64 (wrap64 (d.tdiv g))] = .agg #[.int .i64 (a.tdiv (sT a b c d)), .int .i64 (b.tdiv (sT a b c d)), .int .i64 (c.tdiv (sT a b c d)), .int .i64 (d.tdiv (sT a b c d))]) := hide (by
        rintro g rfl
        obtain ⟨x1, x2, x3, x4⟩ := inT_iff.1 (unhide HI)
        rw [unhide HW _ _ x1, unhide HW _ _ x2, unhide HW _ _ x3, unhide HW _ _ x4])
      have HN : Hid (sT a b c d ≠ 0) := hide (sT_ne (unhide HZ))
      have va : TurnAt (w1.drewN n) w.heap.size a b c d := unhide Va
      have vr : TurnAt (w1.drewN n) (w.heap.size + 1) 0 0 0 0 := unhide Vr
      have fr : FreeT (w1.drewN n) (w.heap.size + 1) := unhide Fr
      have hB : Below w.heap.size w (w1.drewN n) := below_call (unhide HB) (below_drewN _ _)
      clear Va Vr Fr HB HW HI HZ
      by_cases hf : fT a b c d < 0
      · have hs : sT a b c d = -gT a b c d := by unfold sT; rw [if_pos hf]
        have HG := hide hs.symm
        rw [hs] at HN
        go_wp2_with fail
        rw [hw]
        generalize -gT a b c d = g at HN HG ⊢
        clear hw hs hf
        have hne : g ≠ 0 := unhide HN
        have hz0 : (g == 0) = false := by simpa using hne
        generalize w1.drewN n = w3 at va vr fr hB ⊢
        obtain ⟨ca0, ca1, ca2, ca3⟩ := va
        obtain ⟨cr0, cr1, cr2, cr3⟩ := vr
        obtain ⟨fr0, fr1, fr2, fr3⟩ := fr
        go_region
        go_wp2
        exact bodyPost_ret (v := _) (by simp [results, Tryd.results69, go_sem, cr0, cr1, cr2, cr3]) rfl ⟨congrArg _ (unhide HE g (unhide HG)), (below_set4 hB (by omega) _ _ _ _).drew⟩
      · have hs : sT a b c d = gT a b c d := by unfold sT; rw [if_neg hf]
        have HG := hide hs.symm
        rw [hs] at HN
        go_wp2_with fail
        generalize gT a b c d = g at HN HG ⊢
        clear hw hs hf
        have hne : g ≠ 0 := unhide HN
        have hz0 : (g == 0) = false := by simpa using hne
        generalize w1.drewN n = w3 at va vr fr hB ⊢
        obtain ⟨ca0, ca1, ca2, ca3⟩ := va
        obtain ⟨cr0, cr1, cr2, cr3⟩ := vr
        obtain ⟨fr0, fr1, fr2, fr3⟩ := fr
        go_region
        go_wp2
        exact bodyPost_ret (v := _) (by simp [results, Tryd.results69, go_sem, cr0, cr1, cr2, cr3]) rfl ⟨congrArg _ (unhide HE g (unhide HG)), (below_set4 hB (by omega) _ _ _ _).drew⟩

theorem zeroT_false {a b c d : Int} (h : zeroT a b c d = false) : ¬ (a = 0 ∧ b = 0 ∧ c = 0 ∧ d = 0) := fun e => by rw [zeroT_iff.2 e] at h; exact absurd h (by decide)
theorem rightT_zero {a b c d : Int} (h : zeroT a b c d = true) : rightT a b c d = false := by
  cases hr : rightT a b c d
  · rfl
  · exact absurd (zeroT_iff.1 h) (rightT_ne hr)

set_option maxRecDepth 100000 in
theorem turnRight_any (a b c d : Int) (w : World) :
    Calls Tryd.prog 50 #[.agg #[.int .i64 a, .int .i64 b, .int .i64 c, .int .i64 d]] w fun e w' => e = .returned (.bool (rightT a b c d)) ∧ Below w.heap.size w w' := by
  have hn := fun w => neq_turn a b c d 0 0 0 0 w
  have va0 := turnAt_new w a b c d 38
  have hB0 := below1 w (.cells #[.int .i64 a, .int .i64 b, .int .i64 c, .int .i64 d] 38)
  cases hz : eqT a b c d 0 0 0 0
  · rw [hz] at hn
    have HZ := hide (zeroT_false (show zeroT a b c d = false from hz))
    cases h5 : inT 5 a b c d
    · have HR : Hid (rightT a b c d = false) := hide (by rw [rightT, h5]; rfl)
      have cW := hide (fun W => (twithin_any 5 a b c d W (by omega) (by omega)).mono (fun e w' h => (⟨by rw [h.1, h5], h.2⟩ : e = .returned (.bool false) ∧ Below W.heap.size W w')))
      clear h5 hz
      go_enter Tryd.func50, Tryd.ntmps50
      go_wp2_with fail
      generalize w.alloc (.cells #[.int .i64 a, .int .i64 b, .int .i64 c, .int .i64 d] 38) = w1 at va0 hB0 ⊢
      obtain ⟨c0, c1, c2, c3⟩ := va0
      have k0 := cell_regrown c0
      have k1 := cell_regrown c1
      have k2 := cell_regrown c2
      have k3 := cell_regrown c3
      refine wp_region_quiet_below (by kernel_rfl) (by kernel_rfl) ?_
      repeat (quiet_step (exact Calls.regrown_of (unhide cW _)))
      refine wpQuiet_nil ?_
      intro _ hw'
      obtain ⟨⟨dq, osq⟩, hw''⟩ := hw'
      subst hw''
      clear c0 c1 c2 c3 k0 k1 k2 k3 hn
      go_wp2
      go_ret
      exact ⟨by rw [unhide HR]; rfl, below_call hB0 (below_regrown w1 dq osq)⟩
    · have HR := hide (right_reduced (unhide HZ))
      have HT : Hid (rightT a b c d = (decide (0 < fT a b c d) && decide (gT a b c d = 1))) := hide (by rw [rightT, h5, Bool.true_and])
      have cW := hide (fun W => (twithin_any 5 a b c d W (by omega) (by omega)).mono (fun e w' h => (⟨by rw [h.1, h5], h.2⟩ : e = .returned (.bool true) ∧ Below W.heap.size W w')))
      have cR := hide (fun W => reduced_any a b c d W (inT_mono h5 (by omega)) (unhide HZ))
      have he := fun w => eql_turn a b c d (a.tdiv (sT a b c d)) (b.tdiv (sT a b c d)) (c.tdiv (sT a b c d)) (d.tdiv (sT a b c d)) w
      rw [unhide HR] at he
      clear h5 hz HZ HR
      go_enter Tryd.func50, Tryd.ntmps50
      go_wp2_with fail
      generalize w.alloc (.cells #[.int .i64 a, .int .i64 b, .int .i64 c, .int .i64 d] 38) = w1 at va0 hB0 ⊢
      obtain ⟨c0, c1, c2, c3⟩ := va0
      have k0 := cell_regrown c0
      have k1 := cell_regrown c1
      have k2 := cell_regrown c2
      have k3 := cell_regrown c3
      refine wp_region_quiet_below (by kernel_rfl) (by kernel_rfl) ?_
      repeat (quiet_step (first | (with_reducible exact Calls.regrown_of (unhide cW _)) | (with_reducible exact Calls.regrown_of (unhide cR _))))
      refine wpQuiet_nil ?_
      intro _ hw'
      obtain ⟨⟨dq, osq⟩, hw''⟩ := hw'
      subst hw''
      clear c0 c1 c2 c3 k0 k1 k2 k3 hn he
      go_wp2
      go_ret
      exact ⟨by rw [unhide HT]; rfl, below_call hB0 (below_regrown w1 dq osq)⟩
  · rw [hz] at hn
    have HR := hide (rightT_zero (show zeroT a b c d = true from hz))
    clear hz
    go_enter Tryd.func50, Tryd.ntmps50
    go_wp2_with fail
    generalize w.alloc (.cells #[.int .i64 a, .int .i64 b, .int .i64 c, .int .i64 d] 38) = w1 at va0 hB0 ⊢
    obtain ⟨c0, c1, c2, c3⟩ := va0
    have k0 := cell_regrown c0
    have k1 := cell_regrown c1
    have k2 := cell_regrown c2
    have k3 := cell_regrown c3
    refine wp_region_quiet_below (by kernel_rfl) (by kernel_rfl) ?_
    repeat (quiet_step (fail))
    refine wpQuiet_nil ?_
    intro _ hw'
    obtain ⟨⟨dq, osq⟩, hw''⟩ := hw'
    subst hw''
    clear c0 c1 c2 c3 k0 k1 k2 k3 hn
    go_wp2
    go_ret
    exact ⟨by rw [unhide HR]; rfl, below_call hB0 (below_regrown w1 dq osq)⟩

end Go.Proofs.YtphfllkkpblbaaaDoor

namespace Go.Proofs.YtphfllkkpblbaaaDoor
open Go.RowKit Go.Sort
set_option linter.unusedVariables false

theorem ap_none {a b c d x y z : Int} (h : apR a b c d x y z = false) : Value.agg #[.int .i64 (apI (apR a b c d x y z) (apX a b c d x y z)), .int .i64 (apI (apR a b c d x y z) (apY a b c d x y z)), .int .i64 (apI (apR a b c d x y z) (apZ a b c d x y z))] = Value.agg #[.int .i64 0, .int .i64 0, .int .i64 0] := by
  rw [h]; rfl
theorem ap_some {a b c d x y z : Int} (h : apR a b c d x y z = true) : Value.agg #[.int .i64 (apI (apR a b c d x y z) (apX a b c d x y z)), .int .i64 (apI (apR a b c d x y z) (apY a b c d x y z)), .int .i64 (apI (apR a b c d x y z) (apZ a b c d x y z))] = Value.agg #[.int .i64 (apX a b c d x y z), .int .i64 (apY a b c d x y z), .int .i64 (apZ a b c d x y z)] := by
  rw [h]; rfl
theorem wide_in {x y z : Int} (h : wideB x y z = true) : withinB 1800 x y z = true := by unfold wideB at h; rw [Bool.and_eq_true] at h; exact h.2

set_option maxHeartbeats 1000000 in
set_option maxRecDepth 100000 in
theorem l03Apply_any (a b c d x y z : Int) (w : World) (ht : inT 5 a b c d = true) (hv : withinB 1800 x y z = true) :
    Calls Tryd.prog 67 #[.agg #[.int .i64 a, .int .i64 b, .int .i64 c, .int .i64 d], .agg #[.int .i64 x, .int .i64 y, .int .i64 z]] w fun e w' => e = .returned (.agg #[.int .i64 (apX a b c d x y z), .int .i64 (apY a b c d x y z), .int .i64 (apZ a b c d x y z)]) ∧ Below w.heap.size w w' := by
  have HX := hide (apW_X ht hv)
  have HY := hide (apW_Y ht hv)
  have HZ := hide (apW_Z ht hv)
  clear ht hv
  go_enter Tryd.func67, Tryd.ntmps67
  go_wp2
  rw [unhide HX, unhide HY, unhide HZ]
  exact bodyPost_ret (v := .agg #[.int .i64 (apX a b c d x y z), .int .i64 (apY a b c d x y z), .int .i64 (apZ a b c d x y z)]) (by simp [results, Tryd.results67, go_sem]) rfl ⟨rfl, below3 _ _ _ _⟩

set_option maxHeartbeats 1000000 in
set_option maxRecDepth 100000 in
theorem apply_any (a b c d x y z : Int) (w : World) :
    Calls Tryd.prog 52 #[.agg #[.int .i64 a, .int .i64 b, .int .i64 c, .int .i64 d], .agg #[.int .i64 x, .int .i64 y, .int .i64 z]] w fun e w' => e = .returned (.agg #[.int .i64 (apI (apR a b c d x y z) (apX a b c d x y z)), .int .i64 (apI (apR a b c d x y z) (apY a b c d x y z)), .int .i64 (apI (apR a b c d x y z) (apZ a b c d x y z))]) ∧ Below w.heap.size w w' := by
  go_enter Tryd.func52, Tryd.ntmps52
  go_wp2_with fail
  refine (turnRight_any a b c d _).mono ?_
  rintro e w1 ⟨rfl, hx⟩
  have va : TurnAt w1 w.heap.size a b c d := (((turnAt_new w a b c d _).alloc _).alloc _).kept (by simp; omega) hx
  have vv : VecAt w1 (w.heap.size + 1) x y z := ((by simpa using vecAt_new (w.alloc _) x y z _ : VecAt _ (w.heap.size + 1) x y z).alloc (by simp) _).kept (by simp) hx
  have vr : VecAt w1 (w.heap.size + 1 + 1) 0 0 0 := (by simpa using vecAt_new ((w.alloc _).alloc _) 0 0 0 _ : VecAt _ (w.heap.size + 1 + 1) 0 0 0).kept (by simp) hx
  have fr : FreeAt w1 (w.heap.size + 1 + 1) := (by simpa using freeAt_new ((w.alloc _).alloc _) 0 0 0 _ : FreeAt _ (w.heap.size + 1 + 1)).kept (by simp) hx
  have hs : w.heap.size + 2 < w1.heap.size := by have := hx.size; simp at this; omega
  have hB : Below w.heap.size w w1 := below_call (below3 _ _ _ _) hx
  clear hx
  cases h1 : rightT a b c d
  · have HR := hide (ap_none (a := a) (b := b) (c := c) (d := d) (x := x) (y := y) (z := z) (by rw [apR, h1]; rfl))
    obtain ⟨cr0, cr1, cr2⟩ := vr
    obtain ⟨fr0, fr1, fr2⟩ := fr
    go_wp2_with fail
    exact bodyPost_ret (v := .agg #[.int .i64 0, .int .i64 0, .int .i64 0]) (by simp [results, Tryd.results52, go_sem, cr0, cr1, cr2]) rfl ⟨by rw [unhide HR], below_set3 hB (by omega) _ _ _⟩
  · have wa := va
    have wv := vv
    obtain ⟨ca0, ca1, ca2, ca3⟩ := wa
    obtain ⟨cv0, cv1, cv2⟩ := wv
    go_wp2_with fail
    clear ca0 ca1 ca2 ca3 cv0 cv1 cv2
    refine (isWide_any x y z _).mono ?_
    rintro e w2 ⟨rfl, hx⟩
    replace va := va.kept (by omega) hx
    replace vv := vv.kept (by omega) hx
    replace vr := vr.kept (by omega) hx
    replace fr := fr.kept (by omega) hx
    replace hB := below_call hB hx
    replace hs : w.heap.size + 2 < w2.heap.size := by have := hx.size; omega
    clear hx
    cases h2 : wideB x y z
    · have HR := hide (ap_none (a := a) (b := b) (c := c) (d := d) (x := x) (y := y) (z := z) (by rw [apR, h1, h2]; rfl))
      obtain ⟨cr0, cr1, cr2⟩ := vr
      obtain ⟨fr0, fr1, fr2⟩ := fr
      go_wp2_with fail
      exact bodyPost_ret (v := .agg #[.int .i64 0, .int .i64 0, .int .i64 0]) (by simp [results, Tryd.results52, go_sem, cr0, cr1, cr2]) rfl ⟨by rw [unhide HR], below_set3 hB (by omega) _ _ _⟩
    · have wa := va
      have wv := vv
      obtain ⟨ca0, ca1, ca2, ca3⟩ := wa
      obtain ⟨cv0, cv1, cv2⟩ := wv
      have HR := hide (ap_some (a := a) (b := b) (c := c) (d := d) (x := x) (y := y) (z := z) (by rw [apR, h1, h2]; rfl))
      have HX := hide (apW_X (rightT_iff.1 h1).1 (wide_in h2))
      have HY := hide (apW_Y (rightT_iff.1 h1).1 (wide_in h2))
      have HZ := hide (apW_Z (rightT_iff.1 h1).1 (wide_in h2))
      obtain ⟨cr0, cr1, cr2⟩ := vr
      obtain ⟨fr0, fr1, fr2⟩ := fr
      clear va vv h1 h2
      go_wp2
      go_quiet (fail)
      go_wp2
      go_quiet (fail)
      go_wp2
      go_quiet (fail)
      go_wp2
      rw [unhide HX, unhide HY, unhide HZ]
      exact bodyPost_ret (v := .agg #[.int .i64 (apX a b c d x y z), .int .i64 (apY a b c d x y z), .int .i64 (apZ a b c d x y z)]) (by simp [results, Tryd.results52, go_sem, cr0, cr1, cr2]) rfl ⟨by rw [unhide HR], below_set3 (below_call hB (below_drewN _ _)) (by omega) _ _ _⟩
end Go.Proofs.YtphfllkkpblbaaaDoor

namespace Go.Proofs.YtphfllkkpblbaaaDoor
open Go.RowKit Go.Sort
set_option linter.unusedVariables false

theorem info_i64 : (Tryd.prog.info? 2).map (fun i => (i.zero, i.size, i.bytes)) = some (some (.int .i64 0), 1, 8) := by kernel_rfl
theorem RowV.made {w' : World} {B b n : Nat} {v : Value} {t : TypeId} {c : Nat} {xs : List Value} {f : Nat → Value} (h : w'.ownsRow B t c (.slice (some ⟨b, 0, none⟩) n n) n xs) (hf : ∀ j, j < n * c → xs[j]? = some (f j)) : RowV w' t b (n * c) f := by
  rcases h.2 with ⟨h', _⟩ | ⟨g, cap, cur, hv, _, hg, _, _, _, htake⟩
  · simp at h'
  · simp only [Value.slice.injEq, Option.some.injEq, Addr.mk.injEq, and_true, true_and] at hv
    obtain ⟨rfl, rfl⟩ := hv
    refine ⟨cur, hg, fun j hj => ?_⟩
    have e := hf j hj
    rw [← htake, List.getElem?_take, if_pos hj] at e
    simpa using e
theorem below_grownN {w w' : World} (h : w.grownBy w' none) : Below w.heap.size w w' := ⟨h.os, h.tape, h.output, h.size, fun k hk => h.block k hk (by simp)⟩
/-- what the program's Apply answers of a right turn and a small direction -/
theorem apply_small (a b c d : Int) (v : D3) (w : World) (ht : rightT a b c d = true) (hv : smallB v.1 v.2.1 v.2.2 = true) :
    Calls Tryd.prog 52 #[.agg #[.int .i64 a, .int .i64 b, .int .i64 c, .int .i64 d], .agg #[.int .i64 v.1, .int .i64 v.2.1, .int .i64 v.2.2]] w fun e w' => e = .returned (.agg #[.int .i64 (apD a b c d v).1, .int .i64 (apD a b c d v).2.1, .int .i64 (apD a b c d v).2.2]) ∧ Below w.heap.size w w' := by
  refine (apply_any a b c d v.1 v.2.1 v.2.2 w).mono fun e w' h => ?_
  have hr : apR a b c d v.1 v.2.1 v.2.2 = true := by unfold apR; rw [ht, small_wideB hv]; rfl
  rw [hr] at h
  exact h
theorem TurnAt.same {w w' : World} {b : Nat} {p q r s : Int} (h : TurnAt w b p q r s) (e : w'.heap[b]? = w.heap[b]?) : TurnAt w' b p q r s := by
  obtain ⟨h0, h1, h2, h3⟩ := h
  exact ⟨(World.cell?_of_block (a := ⟨b, _, none⟩) e).trans h0, (World.cell?_of_block (a := ⟨b, _, none⟩) e).trans h1, (World.cell?_of_block (a := ⟨b, _, none⟩) e).trans h2, (World.cell?_of_block (a := ⟨b, _, none⟩) e).trans h3⟩
/-- what lies in memory while the spots are gone through -/
structure MSt (w wr : World) (g m : Nat) (a b c d : Int) (f : Nat → Value) : Prop where
  row : RowV wr 2 g (m * 1) f
  tur : TurnAt wr w.heap.size a b c d
  bel : Below w.heap.size w wr
  lo : w.heap.size < g
theorem MSt.kept {w wr wy : World} {g m : Nat} {a b c d : Int} {f : Nat → Value} (h : MSt w wr g m a b c d f) (hB : Below wr.heap.size wr wy) : MSt w wy g m a b c d f :=
  ⟨h.row.kept hB, h.tur.kept h.tur.lt hB, below_call h.bel hB, h.lo⟩
theorem MSt.set {w wr : World} {g m : Nat} {a b c d : Int} {f : Nat → Value} (h : MSt w wr g m a b c d f) (i : Nat) (v : Value) : MSt w (wr.setCell ⟨g, i, none⟩ v) g m a b c d (fun j => if j = i then v else f j) :=
  ⟨h.row.set i v, h.tur.same (heap_setCell_other wr ⟨g, i, none⟩ w.heap.size v (by have := h.lo; show w.heap.size ≠ g; omega)), h.bel.setCell (by have := h.lo; show w.heap.size ≤ g; omega) _, h.lo⟩
theorem MSt.congr {w wr : World} {g m : Nat} {a b c d : Int} {f f' : Nat → Value} (h : MSt w wr g m a b c d f) (e : ∀ j, j < m → f j = f' j) : MSt w wr g m a b c d f' := ⟨h.row.congr (fun j hj => e j (by omega)), h.tur, h.bel, h.lo⟩
/-- the row while spot i is held against the first k stars -/
def rowM (S : List D3) (fin : D3 → Int) (i : Nat) (x : Int) (j : Nat) : Value := .int .i64 (if j < i then fin (vA S j) else if j = i then x else 0)
end Go.Proofs.YtphfllkkpblbaaaDoor

namespace Go.Proofs.YtphfllkkpblbaaaDoor
open Go.RowKit Go.Sort
set_option linter.unusedVariables false

theorem rowOfStars {w : World} {b n : Nat} {L : List St} (h : OwnS w b n L n) : ∃ f, RowAt w 48 b (n * 4) f := by
  obtain ⟨cur, hc, hn, hs⟩ := h
  refine ⟨fun j => match cur[j]? with | some (.int _ v) => v | _ => 0, cur, hc, fun j hj => ?_⟩
  obtain ⟨h0, h1, h2, h3⟩ := hs (j / 4) (by omega)
  have hm : j = j / 4 * 4 ∨ j = j / 4 * 4 + 1 ∨ j = j / 4 * 4 + 2 ∨ j = j / 4 * 4 + 3 := by omega
  have e : ∃ z : Int, cur[j]? = some (.int .i64 z) := by
    rcases hm with e | e | e | e
    · exact ⟨_, by rw [e]; exact h0⟩
    · exact ⟨_, by rw [e]; exact h1⟩
    · exact ⟨_, by rw [e]; exact h2⟩
    · exact ⟨_, by rw [e]; exact h3⟩
  obtain ⟨z, hz⟩ := e
  simp only [hz]
theorem rowOfDirs {w : World} {b n : Nat} {L : List D3} (h : OwnD w b n L n) : ∃ f, RowV w 46 b (n * 3) f := by
  obtain ⟨cur, hc, hn, hs⟩ := h
  refine ⟨fun j => cur.getD j .nilIface, cur, hc, fun j hj => ?_⟩
  simp [Array.getD, show j < cur.size by omega]
/-- the first n numbers of ids lie at a -/
def Nums (w : World) (a : Option Addr) (ids : List Int) (n : Nat) : Prop := n = 0 ∨ ∃ b o, a = some ⟨b, o, none⟩ ∧ b < w.heap.size ∧ ∀ i, i < n → w.cell? ⟨b, o + i, none⟩ = some (.int .i64 (ids.getD i 0))
theorem Nums.kept {w w' : World} {a : Option Addr} {L : List Int} {n : Nat} (h : Nums w a L n) (hB : Below w.heap.size w w') : Nums w' a L n := by
  rcases h with h | ⟨b, o, ha, hb, hc⟩
  · exact .inl h
  · exact .inr ⟨b, o, ha, Nat.lt_of_lt_of_le hb hB.size, fun i hi => by rw [hB.cell (p := ⟨b, o + i, none⟩) hb]; exact hc i hi⟩
def numV (ids : List Int) (j : Nat) : Value := .int .i64 (ids.getD j 0)
theorem nums_of {w : World} {g n : Nat} {ids : List Int} (h : RowV w 2 g (n * 1) (numV ids)) : Nums w (some ⟨g, 0, none⟩) ids n :=
  .inr ⟨g, 0, rfl, h.lt, fun i hi => by rw [Nat.zero_add]; exact h.cell (by omega)⟩
theorem prow_of {w : World} {t : TypeId} {g n c : Nat} {f : Nat → Value} (h : RowV w t g (n * c) f) (cap : Nat) : PRow w t c 0 w.heap.size n (.slice (some ⟨g, 0, none⟩) n cap) f := .inr ⟨g, cap, rfl, Nat.zero_le _, h.lt, h⟩
set_option maxHeartbeats 1000000 in
set_option maxRecDepth 100000 in
theorem toInt64S_any (ids : List Int) (n : Nat) (a : Option Addr) (c : Nat) (w : World) (hn : n ≤ 1048576) (hS : Nums w a ids n) :
    Calls Tryd.prog 10 #[.slice a n c] w fun e w' => e = .returned (.slice (some ⟨w.heap.size, 0, none⟩) n n) ∧ RowV w' 2 w.heap.size (n * 1) (numV ids) ∧ Below w.heap.size w w' := by
  have HS := hide hS
  clear hS
  obtain ⟨i0, hi, hz0, hz1, hz2⟩ := info_parts info_i64
  go_enter Tryd.func10, Tryd.ntmps10
  go_wp2_with (at_make; refine wpList_make_full _ rfl _ _ 24 rfl w.heap.size 2 i0 (.int .i64 0) 1 Tryd.underlying24 hi hz0 hz1 .i64 .i64 _ _ n rfl rfl rfl rfl (by rw [hz2]; omega) (by unfold maxLen; omega) (Nat.le_refl _) ?_; intro w0 hown0 hgrow0)
  have hzero : ∀ j, j < n * 1 → (madeCells (Value.int .i64 0).cells (n * 1)).toList[j]? = some (.int .i64 0) := by
    intro j hj
    have e : (Value.int .i64 0).cells = #[.int .i64 0] := rfl
    rw [e, toList_madeCells_one]
    simp at hj
    simp [hj]
  have H0 : Hid (RowV w0 2 w.heap.size (n * 1) (fun j => if j < 0 then numV ids j else .int .i64 0)) := hide ((RowV.made (v := .nilIface) hown0 hzero).congr (fun j hj => by rw [if_neg (by omega)]))
  have HB0 := hide (below_grownN hgrow0)
  clear hown0 hgrow0 hzero
  rcases unhide HS with rfl | ⟨b, o, rfl, hb, hc⟩
  · refine wp_loop_rounds 1 ?_
    rw [rounds_succ]
    go_wp2_with fail
    go_ret
    exact ⟨rfl, (unhide H0).congr (fun j hj => by omega), unhide HB0⟩
  have HC := hide hc
  clear hc
  go_loopw [4] (fun i wr => ∃ k : Nat, k ≤ n ∧ i = .int .i64 k ∧ Hid (RowV wr 2 w.heap.size (n * 1) (fun j => if j < k then numV ids j else .int .i64 0)) ∧ Hid (Below w.heap.size w wr)) (fun i _ => n - (intOf i).toNat)
  case atStart => exact ⟨0, by omega, rfl, H0, HB0⟩
  case round =>
    clear H0 HB0
    obtain ⟨k, hk, rfl, HO, HB⟩ := hrel
    by_cases hkn : k < n
    · have c0 : wr.cell? ⟨b, o + k, none⟩ = some (.int .i64 (ids.getD k 0)) := by rw [(unhide HB).cell (p := ⟨b, o + k, none⟩) hb]; exact unhide HC k hkn
      have HN : Hid (numV ids k = .int .i64 (ids.getD k 0)) := hide rfl
      generalize ids.getD k 0 = z at *
      have hkn2 : (k : Int) < (n : Int) := by omega
      have e0 := (unhide HO).cell (j := k) (by omega)
      have f0 := (unhide HO).free k
      rw [if_neg (by omega)] at e0
      have HO3 : Hid (RowV (wr.setCell ⟨w.heap.size, k, none⟩ (.int .i64 z)) 2 w.heap.size (n * 1) (fun j => if j < k + 1 then numV ids j else .int .i64 0)) := hide (((unhide HO).set k (.int .i64 z)).congr (fun j hj => by
        by_cases h : j = k
        · rw [if_pos h, if_pos (by omega), h, unhide HN]
        · rw [if_neg h]
          by_cases h2 : j < k
          · rw [if_pos h2, if_pos (by omega)]
          · rw [if_neg h2, if_neg (by omega)]))
      have HB3 := hide ((unhide HB).setCell (show w.heap.size ≤ w.heap.size from Nat.le_refl _) (.int .i64 z) : Below w.heap.size w (wr.setCell ⟨w.heap.size, k, none⟩ (.int .i64 z)))
      clear HO HB
      go_wp2_with fail
      go_roundw
      case rel => exact ⟨k + 1, by omega, by go_num, HO3, HB3⟩
      case measure => simp [intOf]; omega
    · have hkn' : k = n := by omega
      subst hkn'
      go_wp2_with fail
      go_ret
      exact ⟨rfl, (unhide HO).congr (fun j hj => if_pos (by omega)), unhide HB⟩
end Go.Proofs.YtphfllkkpblbaaaDoor

namespace Go.Proofs.YtphfllkkpblbaaaDoor
open Go.RowKit Go.Sort
set_option linter.unusedVariables false

theorem oKept {w w' : World} {B : Nat} {t : TypeId} {v : Value} {n m : Nat} {xs : List Value} (h : w.ownsRow B t m v n xs) (hB : Below w.heap.size w w') : w'.ownsRow B t m v n xs :=
  h.kept (row := none) ⟨hB.os, hB.tape, hB.output, hB.size, fun k hk _ => hB.block k hk⟩ (by cases hv : v.ownBlock <;> simp)
theorem oSlice {w : World} {B : Nat} {t : TypeId} {v : Value} {n m : Nat} {xs : List Value} (h : w.ownsRow B t m v n xs) : ∃ a c, v = .slice a n c := by
  rcases h.2 with ⟨h1, h0⟩ | ⟨g, cap, cur, hv, _⟩
  · exact ⟨none, 0, by rw [h1, h0]⟩
  · exact ⟨_, _, hv⟩
theorem oBelow {B : Nat} {w w1 w2 : World} {v : Value} {t : TypeId} {n m : Nat} {xs : List Value} (h : Below B w w1) (ho : w1.ownsRow B t m v n xs) (hg : w1.grownBy w2 v.ownBlock) (hB : B ≤ w1.heap.size) : Below B w w2 :=
  h.trans ⟨hg.os, hg.tape, hg.output, hg.size, fun k hk => hg.block k (by omega) (fun e => by have := (ho.lt k e.symm).1; omega)⟩
theorem new_cells (w : World) (vs : List Value) (t : TypeId) : ∀ (j : Nat) (u : Value), vs[j]? = some u → (w.alloc (.cells vs.toArray t)).cell? ((⟨w.heap.size, 0, none⟩ : Addr).add j) = some u := by
  intro j u hj
  have e : (⟨w.heap.size, 0, none⟩ : Addr).add j = ⟨w.heap.size, j, none⟩ := by cases j <;> simp [Addr.add]
  rw [e]
  simp [hj]
abbrev T4 := Int × Int × Int × Int
theorem info_turn : (Tryd.prog.info? 38).map (fun i => (i.zero, i.size, i.bytes)) = some (some (.agg #[.int .i64 0, .int .i64 0, .int .i64 0, .int .i64 0]), 4, 32) := by kernel_rfl
def turn4 (t : T4) : List Value := [.int .i64 t.1, .int .i64 t.2.1, .int .i64 t.2.2.1, .int .i64 t.2.2.2]
def flatT (S : List T4) : List Value := S.flatMap turn4
theorem flatT_app (A B : List T4) : flatT (A ++ B) = flatT A ++ flatT B := by unfold flatT; rw [List.flatMap_append]
theorem flatT_cell {S : List T4} {v : Value} (h : v ∈ flatT S) : v.oneCell' = true := by
  unfold flatT at h
  rw [List.mem_flatMap] at h
  obtain ⟨p, _, hp⟩ := h
  simp [turn4] at hp
  rcases hp with rfl | rfl | rfl | rfl <;> rfl
/-- the turn of the number n, whose digits to the base of five are its parts -/
def tOf (n : Nat) : T4 := ((n : Int) / 125 - 2, (n : Int) / 25 % 5 - 2, (n : Int) / 5 % 5 - 2, (n : Int) % 5 - 2)
def goodT (t : T4) : Bool := rightT t.1 t.2.1 t.2.2.1 t.2.2.2
def turnsTo (k : Nat) : List T4 := ((List.range k).map tOf).filter goodT
theorem turns_len (k : Nat) : (turnsTo k).length ≤ k := by
  have h := List.length_filter_le goodT ((List.range k).map tOf)
  rw [List.length_map, List.length_range] at h
  exact h
theorem turns_snoc (k : Nat) : turnsTo (k + 1) = turnsTo k ++ (if goodT (tOf k) = true then [tOf k] else []) := by
  unfold turnsTo
  rw [List.range_succ, List.map_append, List.filter_append]
  congr 1
  cases h : goodT (tOf k)
  · rw [List.map_singleton, List.filter_cons_of_neg (by simp [h])]; rfl
  · rw [List.map_singleton, List.filter_cons_of_pos h]; rfl
theorem tOf_at (a b c d : Nat) (hb : b < 5) (hc : c < 5) (hd : d < 5) : tOf (a * 125 + b * 25 + c * 5 + d) = ((a : Int) - 2, (b : Int) - 2, (c : Int) - 2, (d : Int) - 2) := by
  unfold tOf
  have e1 : ((a * 125 + b * 25 + c * 5 + d : Nat) : Int) / 125 = a := by omega
  have e2 : ((a * 125 + b * 25 + c * 5 + d : Nat) : Int) / 25 % 5 = b := by omega
  have e3 : ((a * 125 + b * 25 + c * 5 + d : Nat) : Int) / 5 % 5 = c := by omega
  have e4 : ((a * 125 + b * 25 + c * 5 + d : Nat) : Int) % 5 = d := by omega
  rw [e1, e2, e3, e4]
theorem ownT_none (w : World) (B : Nat) (h : B ≤ w.heap.size) : (w.alloc (.cells #[] 38)).ownsRow B 38 4 (.slice (some ⟨w.heap.size, 0, none⟩) 0 0) 0 (flatT []) :=
  ⟨rfl, .inr ⟨_, 0, #[], rfl, h, Array.getElem?_push_size, Nat.le_refl _, Nat.zero_le _, rfl, rfl⟩⟩
set_option maxHeartbeats 4000000 in
set_option maxRecDepth 100000 in
theorem implTurns_any (w : World) :
    Calls Tryd.prog 30 #[] w fun e w' => (∃ v, e = .returned v ∧ w'.ownsRow w.heap.size 38 4 v (turnsTo 625).length (flatT (turnsTo 625))) ∧ Below w.heap.size w w' := by
  obtain ⟨i0, hinf, hz0, hz1, hz2⟩ := info_parts info_turn
  have hm8 : 1000 ≤ maxLen := by decide +kernel
  go_enter Tryd.func30, Tryd.ntmps30
  go_wp2_with fail
  go_loopw [1, 4] (fun v kk wr => ∃ k : Nat, k ≤ 625 ∧ kk = .int .i64 k ∧ Hid (wr.ownsRow w.heap.size 38 4 v (turnsTo k).length (flatT (turnsTo k))) ∧ Hid (Below w.heap.size w wr)) (fun _ kk _ => 625 - (intOf kk).toNat)
  case atStart => exact ⟨0, by omega, rfl, hide (World.ownsRow_nil _ _ _ _), hide (Below.refl _ _)⟩
  case round =>
    obtain ⟨k, hk, rfl, HO, HB⟩ := hrel
    by_cases hkn : k < 625
    · have hkn2 : (k : Int) < 625 := by omega
      have HSN : Hid (turnsTo (k + 1) = turnsTo k ++ (if goodT ((k : Int) / 125 - 2, (k : Int) / 25 % 5 - 2, (k : Int) / 5 % 5 - 2, (k : Int) % 5 - 2) = true then [((k : Int) / 125 - 2, (k : Int) / 25 % 5 - 2, (k : Int) / 5 % 5 - 2, (k : Int) % 5 - 2)] else [])) := hide (turns_snoc k)
      have hpl := turns_len k
      have Z := below1 wr (.cells #[.int .i64 ((k : Int) / 125 - 2), .int .i64 ((k : Int) / 25 % 5 - 2), .int .i64 ((k : Int) / 5 % 5 - 2), .int .i64 ((k : Int) % 5 - 2)] 38)
      have HB1 := hide (below_call (unhide HB) Z)
      have HO1 := hide (oKept (unhide HO) Z)
      have TA1 := turnAt_new wr ((k : Int) / 125 - 2) ((k : Int) / 25 % 5 - 2) ((k : Int) / 5 % 5 - 2) ((k : Int) % 5 - 2) 38
      clear Z HO HB
      go_wp2_with fail
      generalize (k : Int) / 125 - 2 = p at *
      generalize (k : Int) / 25 % 5 - 2 = q at *
      generalize (k : Int) / 5 % 5 - 2 = r at *
      generalize (k : Int) % 5 - 2 = s at *
      generalize wr.alloc (.cells #[.int .i64 p, .int .i64 q, .int .i64 r, .int .i64 s] 38) = W1 at HB1 HO1 TA1 ⊢
      refine (turnRight_any p q r s _).mono ?_
      rintro e W2 ⟨rfl, hx⟩
      have TA2 := TA1.kept TA1.lt hx
      have HB2 := hide (below_call (unhide HB1) hx)
      have HO2 := hide (oKept (unhide HO1) hx)
      clear hx TA1 HB1 HO1
      have HG : Hid (goodT (p, q, r, s) = rightT p q r s) := hide rfl
      generalize wr.heap.size = tb at *
      cases hr : rightT p q r s
      · rw [hr] at HG
        rw [unhide HG, if_neg (by simp), List.append_nil] at HSN
        have HO3 : Hid (W2.ownsRow w.heap.size 38 4 u1 (turnsTo (k + 1)).length (flatT (turnsTo (k + 1)))) := hide (by rw [unhide HSN]; exact unhide HO2)
        go_wp2_with fail
        go_roundw
        case rel => exact ⟨k + 1, by omega, by go_num, HO3, HB2⟩
        case measure => simp [intOf] <;> omega
      · rw [hr] at HG
        rw [unhide HG, if_pos rfl] at HSN
        obtain ⟨e0, e1, e2, e3⟩ := TA2
        have Z1 := below1 W2 (.cells #[.int .i64 p, .int .i64 q, .int .i64 r, .int .i64 s] 38)
        have hown := oKept (unhide HO2) Z1
        have B3 := below_call (unhide HB2) Z1
        have hsz := (unhide HB2).size
        clear Z1 HO2 HB2
        generalize turnsTo k = Pk at *
        go_wp2_with (at_builtin; refine wpList_append_own _ rfl _ _ 61 rfl w.heap.size 38 i0 (.agg #[.int .i64 0, .int .i64 0, .int .i64 0, .int .i64 0]) 4 32 Tryd.underlying61 hinf hz0 hz1 hz2 rfl (by decide) _ _ _ rfl hown ⟨W2.heap.size, 0, none⟩ 1 1 (flatT [(p, q, r, s)]) rfl rfl ?d2 (fun u hu => flatT_cell hu) ?d3 ?d4 ?d5 ?_)
        case d2 => first | exact fun j u h => h | exact new_cells _ _ _
        case d3 => omega
        case d4 => omega
        case d5 => first | omega | (simp; omega)
        intro v7 V7 hown7 hgrow7 _
        have HB8 := hide (oBelow B3 hown hgrow7 (by simp; omega))
        have HO8 : Hid (V7.ownsRow w.heap.size 38 4 v7 (turnsTo (k + 1)).length (flatT (turnsTo (k + 1)))) := hide (by rw [unhide HSN, flatT_app, List.length_append]; exact hown7)
        clear hown7 hgrow7 hown B3 e0 e1 e2 e3
        go_wp2_with fail
        go_roundw
        case rel => exact ⟨k + 1, by omega, by go_num, HO8, HB8⟩
        case measure => simp [intOf] <;> omega
    · have hke : k = 625 := by omega
      subst hke
      go_wp2_with fail
      go_ret
      exact ⟨⟨_, rfl, unhide HO⟩, unhide HB⟩
end Go.Proofs.YtphfllkkpblbaaaDoor
