/- Several texts in one: TurnC, TsA, TsD, TfM, FrA, FrB, Bytes, FrC. -/
import Derived.BigRegion
import Derived.OwnWalk
import Derived.Laws.OwnMore
import Derived.Lib.QuietBelow
import Derived.Deep.QuietTactic
import Derived.BigQuiet
import Derived.Test.YtphfllkkpblbaaaDoorRows
import Derived.WalkKit
import Derived.WalkSpells
import Derived.WalkLawsBesides
import Derived.Lib.BufferWrite
import Derived.Lib.SlBytesRow
import Derived.Laws.BytesArg
import Derived.Test.YtphfllkkpblbaaaDoorQTurnForOwn6
import Derived.Test.YtphfllkkpblbaaaDoorQTurnForOwn2
namespace Go.Proofs.YtphfllkkpblbaaaDoor
open Go.RowKit Go.Sort
set_option linter.unusedVariables false

def ptT (a b c d : Int) : Nat → Int
  | 0 => a
  | 1 => b
  | 2 => c
  | _ => d
def gS4 (a b c d : Int) : Nat → Int
  | 0 => 0
  | k + 1 => ((Int.gcd (gS4 a b c d k) (ptT a b c d k) : Nat) : Int)
def fS4 (a b c d : Int) : Nat → Int
  | 0 => 0
  | k + 1 => if fS4 a b c d k = 0 then ptT a b c d k else fS4 a b c d k
theorem ptT_le {m a b c d : Int} (h : inT m a b c d = true) (k : Nat) : -m ≤ ptT a b c d k ∧ ptT a b c d k ≤ m := by
  obtain ⟨h1, h2, h3, h4⟩ := inT_iff.1 h
  match k with
  | 0 => exact h1
  | 1 => exact h2
  | 2 => exact h3
  | _ + 3 => exact h4
theorem gS4_le {a b c d : Int} (h : inT 1000 a b c d = true) (k : Nat) : -1000000 ≤ gS4 a b c d k ∧ gS4 a b c d k ≤ 1000000 := by
  have : 0 ≤ gS4 a b c d k ∧ gS4 a b c d k ≤ 1000 := by
    induction k with
    | zero => exact ⟨by show (0 : Int) ≤ 0; omega, by show (0 : Int) ≤ 1000; omega⟩
    | succ k ih => exact gcd_le (m := 1000) (by omega) (ptT_le h k)
  omega
theorem fS4_all (a b c d : Int) : fS4 a b c d 4 = fT a b c d := by
  unfold fT
  by_cases h1 : a = 0
  · by_cases h2 : b = 0
    · by_cases h3 : c = 0
      · simp [fS4, ptT, h1, h2, h3]
      · simp [fS4, ptT, h1, h2, h3]
    · simp [fS4, ptT, h1, h2]
  · simp [fS4, ptT, h1]
theorem fS4_z {a b c d : Int} {k : Nat} (h : fS4 a b c d k = 0) : fS4 a b c d (k + 1) = ptT a b c d k := by
  show (if fS4 a b c d k = 0 then ptT a b c d k else fS4 a b c d k) = _
  rw [if_pos h]
theorem fS4_n {a b c d : Int} {k : Nat} (h : fS4 a b c d k ≠ 0) : fS4 a b c d (k + 1) = fS4 a b c d k := by
  show (if fS4 a b c d k = 0 then ptT a b c d k else fS4 a b c d k) = _
  rw [if_neg h]

set_option maxHeartbeats 1000000 in
set_option maxRecDepth 100000 in
theorem reduced_any (a b c d : Int) (w : World) (h : inT 1000 a b c d = true) (hz : ¬ (a = 0 ∧ b = 0 ∧ c = 0 ∧ d = 0)) :
    Calls Tryd.prog 69 #[.agg #[.int .i64 a, .int .i64 b, .int .i64 c, .int .i64 d]] w fun e w' => e = .returned (.agg #[.int .i64 (a.tdiv (sT a b c d)), .int .i64 (b.tdiv (sT a b c d)), .int .i64 (c.tdiv (sT a b c d)), .int .i64 (d.tdiv (sT a b c d))]) ∧ Below w.heap.size w w' := by
  have i0 : ∀ w : World, (Instr.index 115 (.agg #[.int .i64 a, .int .i64 b, .int .i64 c, .int .i64 d]) (.int .i64 0)).run Tryd.prog w = .ok (.int .i64 a) w := fun _ => by kernel_rfl
  have i1 : ∀ w : World, (Instr.index 115 (.agg #[.int .i64 a, .int .i64 b, .int .i64 c, .int .i64 d]) (.int .i64 1)).run Tryd.prog w = .ok (.int .i64 b) w := fun _ => by kernel_rfl
  have i2 : ∀ w : World, (Instr.index 115 (.agg #[.int .i64 a, .int .i64 b, .int .i64 c, .int .i64 d]) (.int .i64 2)).run Tryd.prog w = .ok (.int .i64 c) w := fun _ => by kernel_rfl
  have i3 : ∀ w : World, (Instr.index 115 (.agg #[.int .i64 a, .int .i64 b, .int .i64 c, .int .i64 d]) (.int .i64 3)).run Tryd.prog w = .ok (.int .i64 d) w := fun _ => by kernel_rfl
  have HI := hide h
  have HZ := hide hz
  have HW : Hid (∀ (x s : Int), -1000 ≤ x ∧ x ≤ 1000 → wrap64 (x.tdiv s) = x.tdiv s) := hide (fun x s hx => by have := tdiv_le (s := s) hx; exact wrap_id (by omega) (by omega))
  clear h hz
  go_enter Tryd.func69, Tryd.ntmps69
  go_wp2_with fail
  refine (tparts_any a b c d _).mono ?_
  rintro e w1 ⟨rfl, hB1⟩
  have va : TurnAt w1 w.heap.size a b c d := ((turnAt_new w a b c d _).alloc _).kept (by simp; omega) hB1
  have vr : TurnAt w1 (w.heap.size + 1) 0 0 0 0 := (by simpa using turnAt_new (w.alloc _) 0 0 0 0 _ : TurnAt _ (w.heap.size + 1) 0 0 0 0).kept (by simp) hB1
  have fr : FreeT w1 (w.heap.size + 1) := (by simpa using freeT_new (w.alloc _) 0 0 0 0 _ : FreeT _ (w.heap.size + 1)).kept (by simp) hB1
  have hB : Below w.heap.size w w1 := below_call (below2 _ _ _) hB1
  clear hB1
  have Va := hide va
  have Vr := hide vr
  have Fr := hide fr
  have HB := hide hB
  clear va vr fr hB
  go_wp2_with fail
  go_loopw [3, 4, 9] (fun u f i wr => ∃ (k n : Nat), k ≤ 4 ∧ i = .int .i64 k ∧ u = .int .i64 (gS4 a b c d k) ∧ f = .int .i64 (fS4 a b c d k) ∧ wr = w1.drewN n) (fun _ _ i _ => 4 - (intOf i).toNat)
  case atStart => exact ⟨0, 0, by omega, rfl, rfl, rfl, rfl⟩
  case round =>
    obtain ⟨k, n, hk, rfl, rfl, rfl, rfl⟩ := hrel
    have hk5 : k = 0 ∨ k = 1 ∨ k = 2 ∨ k = 3 ∨ k = 4 := by omega
    rcases hk5 with rfl | rfl | rfl | rfl | rfl
    · go_wp2_with fail
      refine (shared_any _ a _ (gS4_le (unhide HI) 0) (by have := ptT_le (unhide HI) 0; simp only [ptT] at this; omega)).mono ?_
      rintro e w3 ⟨rfl, m, rfl⟩
      have hg : ((Int.gcd (gS4 a b c d 0) a : Nat) : Int) = gS4 a b c d 1 := rfl
      rw [hg]
      clear hg
      by_cases hf : fS4 a b c d 0 = 0
      · have HF := hide (fS4_z hf)
        rw [hf]
        clear hf
        go_wp2_with fail
        go_roundw
        case rel => exact ⟨1, n + m, by omega, rfl, rfl, by rw [unhide HF]; rfl, by simp⟩
        case measure => simp [intOf]
      · have HF := hide (fS4_n hf)
        have hb : (fS4 a b c d 0 == 0) = false := by simpa using hf
        clear hf
        go_wp2_with fail
        go_roundw
        case rel => exact ⟨1, n + m, by omega, rfl, rfl, by rw [unhide HF], by simp⟩
        case measure => simp [intOf]
    · go_wp2_with fail
      refine (shared_any _ b _ (gS4_le (unhide HI) 1) (by have := ptT_le (unhide HI) 1; simp only [ptT] at this; omega)).mono ?_
      rintro e w3 ⟨rfl, m, rfl⟩
      have hg : ((Int.gcd (gS4 a b c d 1) b : Nat) : Int) = gS4 a b c d 2 := rfl
      rw [hg]
      clear hg
      by_cases hf : fS4 a b c d 1 = 0
      · have HF := hide (fS4_z hf)
        rw [hf]
        clear hf
        go_wp2_with fail
        go_roundw
        case rel => exact ⟨2, n + m, by omega, rfl, rfl, by rw [unhide HF]; rfl, by simp⟩
        case measure => simp [intOf]
      · have HF := hide (fS4_n hf)
        have hb : (fS4 a b c d 1 == 0) = false := by simpa using hf
        clear hf
        go_wp2_with fail
        go_roundw
        case rel => exact ⟨2, n + m, by omega, rfl, rfl, by rw [unhide HF], by simp⟩
        case measure => simp [intOf]
    · go_wp2_with fail
      refine (shared_any _ c _ (gS4_le (unhide HI) 2) (by have := ptT_le (unhide HI) 2; simp only [ptT] at this; omega)).mono ?_
      rintro e w3 ⟨rfl, m, rfl⟩
      have hg : ((Int.gcd (gS4 a b c d 2) c : Nat) : Int) = gS4 a b c d 3 := rfl
      rw [hg]
      clear hg
      by_cases hf : fS4 a b c d 2 = 0
      · have HF := hide (fS4_z hf)
        rw [hf]
        clear hf
        go_wp2_with fail
        go_roundw
        case rel => exact ⟨3, n + m, by omega, rfl, rfl, by rw [unhide HF]; rfl, by simp⟩
        case measure => simp [intOf]
      · have HF := hide (fS4_n hf)
        have hb : (fS4 a b c d 2 == 0) = false := by simpa using hf
        clear hf
        go_wp2_with fail
        go_roundw
        case rel => exact ⟨3, n + m, by omega, rfl, rfl, by rw [unhide HF], by simp⟩
        case measure => simp [intOf]
    · go_wp2_with fail
      refine (shared_any _ d _ (gS4_le (unhide HI) 3) (by have := ptT_le (unhide HI) 3; simp only [ptT] at this; omega)).mono ?_
      rintro e w3 ⟨rfl, m, rfl⟩
      have hg : ((Int.gcd (gS4 a b c d 3) d : Nat) : Int) = gS4 a b c d 4 := rfl
      rw [hg]
      clear hg
      by_cases hf : fS4 a b c d 3 = 0
      · have HF := hide (fS4_z hf)
        rw [hf]
        clear hf
        go_wp2_with fail
        go_roundw
        case rel => exact ⟨4, n + m, by omega, rfl, rfl, by rw [unhide HF]; rfl, by simp⟩
        case measure => simp [intOf]
      · have HF := hide (fS4_n hf)
        have hb : (fS4 a b c d 3 == 0) = false := by simpa using hf
        clear hf
        go_wp2_with fail
        go_roundw
        case rel => exact ⟨4, n + m, by omega, rfl, rfl, by rw [unhide HF], by simp⟩
        case measure => simp [intOf]
    · have hg : gS4 a b c d 4 = gT a b c d := gcd_four a b c d
      rw [hg, fS4_all]
      clear hg i0 i1 i2 i3
      have hw : wrap64 (-gT a b c d) = -gT a b c d := by have := gS4_le (unhide HI) 4; rw [show gS4 a b c d 4 = gT a b c d from gcd_four a b c d] at this; exact wrap_id (by omega) (by omega)
      have HE : Hid (∀ g, g = sT a b c d → Value.agg #[.int .i64 (wrap64 (a.tdiv g)), .int .i64 (wrap64 (b.tdiv g)), .int .i64 (wrap64 (c.tdiv g)), .int .i64 (wrap64 (d.tdiv g))] = .agg #[.int .i64 (a.tdiv (sT a b c d)), .int .i64 (b.tdiv (sT a b c d)), .int .i64 (c.tdiv (sT a b c d)), .int .i64 (d.tdiv (sT a b c d))]) := hide (by
        rintro g rfl
        obtain ⟨x1, x2, x3, x4⟩ := inT_iff.1 (unhide HI)
        rw [unhide HW _ _ x1, unhide HW _ _ x2, unhide HW _ _ x3, unhide HW _ _ x4])
      have HN : Hid (sT a b c d ≠ 0) := hide (sT_ne (unhide HZ))
      have va : TurnAt (w1.drewN n) w.heap.size a b c d := unhide Va
      have vr : TurnAt (w1.drewN n) (w.heap.size + 1) 0 0 0 0 := unhide Vr
      have fr : FreeT (w1.drewN n) (w.heap.size + 1) := unhide Fr
      have hB : Below w.heap.size w (w1.drewN n) := below_call (unhide HB) (below_drewN _ _)
      clear Va Vr Fr HB HW HI HZ
      by_cases hf : fT a b c d < 0
      · have hs : sT a b c d = -gT a b c d := by unfold sT; rw [if_pos hf]
        have HG := hide hs.symm
        rw [hs] at HN
        go_wp2_with fail
        rw [hw]
        generalize -gT a b c d = g at HN HG ⊢
        clear hw hs hf
        have hne : g ≠ 0 := unhide HN
        have hz0 : (g == 0) = false := by simpa using hne
        generalize w1.drewN n = w3 at va vr fr hB ⊢
        obtain ⟨ca0, ca1, ca2, ca3⟩ := va
        obtain ⟨cr0, cr1, cr2, cr3⟩ := vr
        obtain ⟨fr0, fr1, fr2, fr3⟩ := fr
        go_region
        go_wp2
        exact bodyPost_ret (v := _) (by simp [results, Tryd.results69, go_sem, cr0, cr1, cr2, cr3]) rfl ⟨congrArg _ (unhide HE g (unhide HG)), (below_set4 hB (by omega) _ _ _ _).drew⟩
      · have hs : sT a b c d = gT a b c d := by unfold sT; rw [if_neg hf]
        have HG := hide hs.symm
        rw [hs] at HN
        go_wp2_with fail
        generalize gT a b c d = g at HN HG ⊢
        clear hw hs hf
        have hne : g ≠ 0 := unhide HN
        have hz0 : (g == 0) = false := by simpa using hne
        generalize w1.drewN n = w3 at va vr fr hB ⊢
        obtain ⟨ca0, ca1, ca2, ca3⟩ := va
        obtain ⟨cr0, cr1, cr2, cr3⟩ := vr
        obtain ⟨fr0, fr1, fr2, fr3⟩ := fr
        go_region
        go_wp2
        exact bodyPost_ret (v := _) (by simp [results, Tryd.results69, go_sem, cr0, cr1, cr2, cr3]) rfl ⟨congrArg _ (unhide HE g (unhide HG)), (below_set4 hB (by omega) _ _ _ _).drew⟩

theorem zeroT_false {a b c d : Int} (h : zeroT a b c d = false) : ¬ (a = 0 ∧ b = 0 ∧ c = 0 ∧ d = 0) := fun e => by rw [zeroT_iff.2 e] at h; exact absurd h (by decide)
theorem rightT_zero {a b c d : Int} (h : zeroT a b c d = true) : rightT a b c d = false := by
  cases hr : rightT a b c d
  · rfl
  · exact absurd (zeroT_iff.1 h) (rightT_ne hr)

set_option maxRecDepth 100000 in
theorem turnRight_any (a b c d : Int) (w : World) :
    Calls Tryd.prog 50 #[.agg #[.int .i64 a, .int .i64 b, .int .i64 c, .int .i64 d]] w fun e w' => e = .returned (.bool (rightT a b c d)) ∧ Below w.heap.size w w' := by
  have hn := fun w => neq_turn a b c d 0 0 0 0 w
  have va0 := turnAt_new w a b c d 38
  have hB0 := below1 w (.cells #[.int .i64 a, .int .i64 b, .int .i64 c, .int .i64 d] 38)
  cases hz : eqT a b c d 0 0 0 0
  · rw [hz] at hn
    have HZ := hide (zeroT_false (show zeroT a b c d = false from hz))
    cases h5 : inT 5 a b c d
    · have HR : Hid (rightT a b c d = false) := hide (by rw [rightT, h5]; rfl)
      have cW := hide (fun W => (twithin_any 5 a b c d W (by omega) (by omega)).mono (fun e w' h => (⟨by rw [h.1, h5], h.2⟩ : e = .returned (.bool false) ∧ Below W.heap.size W w')))
      clear h5 hz
      go_enter Tryd.func50, Tryd.ntmps50
      go_wp2_with fail
      generalize w.alloc (.cells #[.int .i64 a, .int .i64 b, .int .i64 c, .int .i64 d] 38) = w1 at va0 hB0 ⊢
      obtain ⟨c0, c1, c2, c3⟩ := va0
      have k0 := cell_regrown c0
      have k1 := cell_regrown c1
      have k2 := cell_regrown c2
      have k3 := cell_regrown c3
      refine wp_region_quiet_below (by kernel_rfl) (by kernel_rfl) ?_
      repeat (quiet_step (exact Calls.regrown_of (unhide cW _)))
      refine wpQuiet_nil ?_
      intro _ hw'
      obtain ⟨⟨dq, osq⟩, hw''⟩ := hw'
      subst hw''
      clear c0 c1 c2 c3 k0 k1 k2 k3 hn
      go_wp2
      go_ret
      exact ⟨by rw [unhide HR]; rfl, below_call hB0 (below_regrown w1 dq osq)⟩
    · have HR := hide (right_reduced (unhide HZ))
      have HT : Hid (rightT a b c d = (decide (0 < fT a b c d) && decide (gT a b c d = 1))) := hide (by rw [rightT, h5, Bool.true_and])
      have cW := hide (fun W => (twithin_any 5 a b c d W (by omega) (by omega)).mono (fun e w' h => (⟨by rw [h.1, h5], h.2⟩ : e = .returned (.bool true) ∧ Below W.heap.size W w')))
      have cR := hide (fun W => reduced_any a b c d W (inT_mono h5 (by omega)) (unhide HZ))
      have he := fun w => eql_turn a b c d (a.tdiv (sT a b c d)) (b.tdiv (sT a b c d)) (c.tdiv (sT a b c d)) (d.tdiv (sT a b c d)) w
      rw [unhide HR] at he
      clear h5 hz HZ HR
      go_enter Tryd.func50, Tryd.ntmps50
      go_wp2_with fail
      generalize w.alloc (.cells #[.int .i64 a, .int .i64 b, .int .i64 c, .int .i64 d] 38) = w1 at va0 hB0 ⊢
      obtain ⟨c0, c1, c2, c3⟩ := va0
      have k0 := cell_regrown c0
      have k1 := cell_regrown c1
      have k2 := cell_regrown c2
      have k3 := cell_regrown c3
      refine wp_region_quiet_below (by kernel_rfl) (by kernel_rfl) ?_
      repeat (quiet_step (first | (with_reducible exact Calls.regrown_of (unhide cW _)) | (with_reducible exact Calls.regrown_of (unhide cR _))))
      refine wpQuiet_nil ?_
      intro _ hw'
      obtain ⟨⟨dq, osq⟩, hw''⟩ := hw'
      subst hw''
      clear c0 c1 c2 c3 k0 k1 k2 k3 hn he
      go_wp2
      go_ret
      exact ⟨by rw [unhide HT]; rfl, below_call hB0 (below_regrown w1 dq osq)⟩
  · rw [hz] at hn
    have HR := hide (rightT_zero (show zeroT a b c d = true from hz))
    clear hz
    go_enter Tryd.func50, Tryd.ntmps50
    go_wp2_with fail
    generalize w.alloc (.cells #[.int .i64 a, .int .i64 b, .int .i64 c, .int .i64 d] 38) = w1 at va0 hB0 ⊢
    obtain ⟨c0, c1, c2, c3⟩ := va0
    have k0 := cell_regrown c0
    have k1 := cell_regrown c1
    have k2 := cell_regrown c2
    have k3 := cell_regrown c3
    refine wp_region_quiet_below (by kernel_rfl) (by kernel_rfl) ?_
    repeat (quiet_step (fail))
    refine wpQuiet_nil ?_
    intro _ hw'
    obtain ⟨⟨dq, osq⟩, hw''⟩ := hw'
    subst hw''
    clear c0 c1 c2 c3 k0 k1 k2 k3 hn
    go_wp2
    go_ret
    exact ⟨by rw [unhide HR]; rfl, below_call hB0 (below_regrown w1 dq osq)⟩

end Go.Proofs.YtphfllkkpblbaaaDoor

namespace Go.Proofs.YtphfllkkpblbaaaDoor
open Go.RowKit Go.Sort
set_option linter.unusedVariables false

theorem oKept {w w' : World} {B : Nat} {t : TypeId} {v : Value} {n m : Nat} {xs : List Value} (h : w.ownsRow B t m v n xs) (hB : Below w.heap.size w w') : w'.ownsRow B t m v n xs :=
  h.kept (row := none) ⟨hB.os, hB.tape, hB.output, hB.size, fun k hk _ => hB.block k hk⟩ (by cases hv : v.ownBlock <;> simp)
theorem oSlice {w : World} {B : Nat} {t : TypeId} {v : Value} {n m : Nat} {xs : List Value} (h : w.ownsRow B t m v n xs) : ∃ a c, v = .slice a n c := by
  rcases h.2 with ⟨h1, h0⟩ | ⟨g, cap, cur, hv, _⟩
  · exact ⟨none, 0, by rw [h1, h0]⟩
  · exact ⟨_, _, hv⟩
theorem oBelow {B : Nat} {w w1 w2 : World} {v : Value} {t : TypeId} {n m : Nat} {xs : List Value} (h : Below B w w1) (ho : w1.ownsRow B t m v n xs) (hg : w1.grownBy w2 v.ownBlock) (hB : B ≤ w1.heap.size) : Below B w w2 :=
  h.trans ⟨hg.os, hg.tape, hg.output, hg.size, fun k hk => hg.block k (by omega) (fun e => by have := (ho.lt k e.symm).1; omega)⟩
theorem new_cells (w : World) (vs : List Value) (t : TypeId) : ∀ (j : Nat) (u : Value), vs[j]? = some u → (w.alloc (.cells vs.toArray t)).cell? ((⟨w.heap.size, 0, none⟩ : Addr).add j) = some u := by
  intro j u hj
  have e : (⟨w.heap.size, 0, none⟩ : Addr).add j = ⟨w.heap.size, j, none⟩ := by cases j <;> simp [Addr.add]
  rw [e]
  simp [hj]
abbrev T4 := Int × Int × Int × Int
theorem info_turn : (Tryd.prog.info? 38).map (fun i => (i.zero, i.size, i.bytes)) = some (some (.agg #[.int .i64 0, .int .i64 0, .int .i64 0, .int .i64 0]), 4, 32) := by kernel_rfl
def turn4 (t : T4) : List Value := [.int .i64 t.1, .int .i64 t.2.1, .int .i64 t.2.2.1, .int .i64 t.2.2.2]
def flatT (S : List T4) : List Value := S.flatMap turn4
theorem flatT_app (A B : List T4) : flatT (A ++ B) = flatT A ++ flatT B := by unfold flatT; rw [List.flatMap_append]
theorem flatT_cell {S : List T4} {v : Value} (h : v ∈ flatT S) : v.oneCell' = true := by
  unfold flatT at h
  rw [List.mem_flatMap] at h
  obtain ⟨p, _, hp⟩ := h
  simp [turn4] at hp
  rcases hp with rfl | rfl | rfl | rfl <;> rfl
/-- the turn of the number n, whose digits to the base of five are its parts -/
def tOf (n : Nat) : T4 := ((n : Int) / 125 - 2, (n : Int) / 25 % 5 - 2, (n : Int) / 5 % 5 - 2, (n : Int) % 5 - 2)
def goodT (t : T4) : Bool := rightT t.1 t.2.1 t.2.2.1 t.2.2.2
def turnsTo (k : Nat) : List T4 := ((List.range k).map tOf).filter goodT
theorem turns_len (k : Nat) : (turnsTo k).length ≤ k := by
  have h := List.length_filter_le goodT ((List.range k).map tOf)
  rw [List.length_map, List.length_range] at h
  exact h
theorem turns_snoc (k : Nat) : turnsTo (k + 1) = turnsTo k ++ (if goodT (tOf k) = true then [tOf k] else []) := by
  unfold turnsTo
  rw [List.range_succ, List.map_append, List.filter_append]
  congr 1
  cases h : goodT (tOf k)
  · rw [List.map_singleton, List.filter_cons_of_neg (by simp [h])]; rfl
  · rw [List.map_singleton, List.filter_cons_of_pos h]; rfl
theorem tOf_at (a b c d : Nat) (hb : b < 5) (hc : c < 5) (hd : d < 5) : tOf (a * 125 + b * 25 + c * 5 + d) = ((a : Int) - 2, (b : Int) - 2, (c : Int) - 2, (d : Int) - 2) := by
  unfold tOf
  have e1 : ((a * 125 + b * 25 + c * 5 + d : Nat) : Int) / 125 = a := by omega
  have e2 : ((a * 125 + b * 25 + c * 5 + d : Nat) : Int) / 25 % 5 = b := by omega
  have e3 : ((a * 125 + b * 25 + c * 5 + d : Nat) : Int) / 5 % 5 = c := by omega
  have e4 : ((a * 125 + b * 25 + c * 5 + d : Nat) : Int) % 5 = d := by omega
  rw [e1, e2, e3, e4]
theorem ownT_none (w : World) (B : Nat) (h : B ≤ w.heap.size) : (w.alloc (.cells #[] 38)).ownsRow B 38 4 (.slice (some ⟨w.heap.size, 0, none⟩) 0 0) 0 (flatT []) :=
  ⟨rfl, .inr ⟨_, 0, #[], rfl, h, Array.getElem?_push_size, Nat.le_refl _, Nat.zero_le _, rfl, rfl⟩⟩
set_option maxHeartbeats 4000000 in
set_option maxRecDepth 100000 in
theorem implTurns_any (w : World) :
    Calls Tryd.prog 30 #[] w fun e w' => (∃ v, e = .returned v ∧ w'.ownsRow w.heap.size 38 4 v (turnsTo 625).length (flatT (turnsTo 625))) ∧ Below w.heap.size w w' := by
  obtain ⟨i0, hinf, hz0, hz1, hz2⟩ := info_parts info_turn
  have hm8 : 1000 ≤ maxLen := by decide +kernel
  go_enter Tryd.func30, Tryd.ntmps30
  go_wp2_with fail
  go_loopw [1, 4] (fun v kk wr => ∃ k : Nat, k ≤ 625 ∧ kk = .int .i64 k ∧ Hid (wr.ownsRow w.heap.size 38 4 v (turnsTo k).length (flatT (turnsTo k))) ∧ Hid (Below w.heap.size w wr)) (fun _ kk _ => 625 - (intOf kk).toNat)
  case atStart => exact ⟨0, by omega, rfl, hide (World.ownsRow_nil _ _ _ _), hide (Below.refl _ _)⟩
  case round =>
    obtain ⟨k, hk, rfl, HO, HB⟩ := hrel
    by_cases hkn : k < 625
    · have hkn2 : (k : Int) < 625 := by omega
      have HSN : Hid (turnsTo (k + 1) = turnsTo k ++ (if goodT ((k : Int) / 125 - 2, (k : Int) / 25 % 5 - 2, (k : Int) / 5 % 5 - 2, (k : Int) % 5 - 2) = true then [((k : Int) / 125 - 2, (k : Int) / 25 % 5 - 2, (k : Int) / 5 % 5 - 2, (k : Int) % 5 - 2)] else [])) := hide (turns_snoc k)
      have hpl := turns_len k
      have Z := below1 wr (.cells #[.int .i64 ((k : Int) / 125 - 2), .int .i64 ((k : Int) / 25 % 5 - 2), .int .i64 ((k : Int) / 5 % 5 - 2), .int .i64 ((k : Int) % 5 - 2)] 38)
      have HB1 := hide (below_call (unhide HB) Z)
      have HO1 := hide (oKept (unhide HO) Z)
      have TA1 := turnAt_new wr ((k : Int) / 125 - 2) ((k : Int) / 25 % 5 - 2) ((k : Int) / 5 % 5 - 2) ((k : Int) % 5 - 2) 38
      clear Z HO HB
      go_wp2_with fail
      generalize (k : Int) / 125 - 2 = p at *
      generalize (k : Int) / 25 % 5 - 2 = q at *
      generalize (k : Int) / 5 % 5 - 2 = r at *
      generalize (k : Int) % 5 - 2 = s at *
      generalize wr.alloc (.cells #[.int .i64 p, .int .i64 q, .int .i64 r, .int .i64 s] 38) = W1 at HB1 HO1 TA1 ⊢
      refine (turnRight_any p q r s _).mono ?_
      rintro e W2 ⟨rfl, hx⟩
      have TA2 := TA1.kept TA1.lt hx
      have HB2 := hide (below_call (unhide HB1) hx)
      have HO2 := hide (oKept (unhide HO1) hx)
      clear hx TA1 HB1 HO1
      have HG : Hid (goodT (p, q, r, s) = rightT p q r s) := hide rfl
      generalize wr.heap.size = tb at *
      cases hr : rightT p q r s
      · rw [hr] at HG
        rw [unhide HG, if_neg (by simp), List.append_nil] at HSN
        have HO3 : Hid (W2.ownsRow w.heap.size 38 4 u1 (turnsTo (k + 1)).length (flatT (turnsTo (k + 1)))) := hide (by rw [unhide HSN]; exact unhide HO2)
        go_wp2_with fail
        go_roundw
        case rel => exact ⟨k + 1, by omega, by go_num, HO3, HB2⟩
        case measure => simp [intOf] <;> omega
      · rw [hr] at HG
        rw [unhide HG, if_pos rfl] at HSN
        obtain ⟨e0, e1, e2, e3⟩ := TA2
        have Z1 := below1 W2 (.cells #[.int .i64 p, .int .i64 q, .int .i64 r, .int .i64 s] 38)
        have hown := oKept (unhide HO2) Z1
        have B3 := below_call (unhide HB2) Z1
        have hsz := (unhide HB2).size
        clear Z1 HO2 HB2
        generalize turnsTo k = Pk at *
        go_wp2_with (at_builtin; refine wpList_append_own _ rfl _ _ 61 rfl w.heap.size 38 i0 (.agg #[.int .i64 0, .int .i64 0, .int .i64 0, .int .i64 0]) 4 32 Tryd.underlying61 hinf hz0 hz1 hz2 rfl (by decide) _ _ _ rfl hown ⟨W2.heap.size, 0, none⟩ 1 1 (flatT [(p, q, r, s)]) rfl rfl ?d2 (fun u hu => flatT_cell hu) ?d3 ?d4 ?d5 ?_)
        case d2 => first | exact fun j u h => h | exact new_cells _ _ _
        case d3 => omega
        case d4 => omega
        case d5 => first | omega | (simp; omega)
        intro v7 V7 hown7 hgrow7 _
        have HB8 := hide (oBelow B3 hown hgrow7 (by simp; omega))
        have HO8 : Hid (V7.ownsRow w.heap.size 38 4 v7 (turnsTo (k + 1)).length (flatT (turnsTo (k + 1)))) := hide (by rw [unhide HSN, flatT_app, List.length_append]; exact hown7)
        clear hown7 hgrow7 hown B3 e0 e1 e2 e3
        go_wp2_with fail
        go_roundw
        case rel => exact ⟨k + 1, by omega, by go_num, HO8, HB8⟩
        case measure => simp [intOf] <;> omega
    · have hke : k = 625 := by omega
      subst hke
      go_wp2_with fail
      go_ret
      exact ⟨⟨_, rfl, unhide HO⟩, unhide HB⟩
end Go.Proofs.YtphfllkkpblbaaaDoor

namespace Go.Proofs.YtphfllkkpblbaaaDoor
open Go.RowKit Go.Sort
set_option linter.unusedVariables false

def tA (L : List T4) (i : Nat) : T4 := L.getD i (0, 0, 0, 0)
theorem flatT_at : ∀ (S : List T4) (k : Nat) (b : T4), S[k]? = some b → ∀ j u, (turn4 b)[j]? = some u → (flatT S)[k * 4 + j]? = some u := by
  intro S
  induction S with
  | nil => intro k b h; simp at h
  | cons x S ih =>
    intro k b h j u hu
    have e : flatT (x :: S) = turn4 x ++ flatT S := by unfold flatT; simp
    have hj : j < 4 := (List.getElem?_eq_some_iff.1 hu).1
    rw [e]
    cases k with
    | zero =>
      simp at h
      subst h
      rw [List.getElem?_append_left (by show _ < 4; omega)]
      simpa using hu
    | succ k =>
      rw [List.getElem?_append_right (by show 4 ≤ _; omega)]
      rw [show (k + 1) * 4 + j - (turn4 x).length = k * 4 + j by show _ - 4 = _; omega]
      exact ih k b (by simpa using h) j u hu
/-- the turns L lie in block g -/
def Turn4s (w : World) (g : Nat) (L : List T4) : Prop := g < w.heap.size ∧ ∀ k, k < L.length → w.cell? ⟨g, k * 4, none⟩ = some (.int .i64 (tA L k).1) ∧ w.cell? ⟨g, k * 4 + 1, none⟩ = some (.int .i64 (tA L k).2.1) ∧ w.cell? ⟨g, k * 4 + 2, none⟩ = some (.int .i64 (tA L k).2.2.1) ∧ w.cell? ⟨g, k * 4 + 3, none⟩ = some (.int .i64 (tA L k).2.2.2)
theorem Turn4s.kept {w w' : World} {g : Nat} {L : List T4} (h : Turn4s w g L) (hB : Below w.heap.size w w') : Turn4s w' g L := by
  refine ⟨Nat.lt_of_lt_of_le h.1 hB.size, fun k hk => ?_⟩
  obtain ⟨h0, h1, h2, h3⟩ := h.2 k hk
  exact ⟨by rw [hB.cell (p := ⟨g, k * 4, none⟩) h.1]; exact h0, by rw [hB.cell (p := ⟨g, k * 4 + 1, none⟩) h.1]; exact h1, by rw [hB.cell (p := ⟨g, k * 4 + 2, none⟩) h.1]; exact h2, by rw [hB.cell (p := ⟨g, k * 4 + 3, none⟩) h.1]; exact h3⟩
theorem turn4s_of {w : World} {B : Nat} {v : Value} {L : List T4} (h : w.ownsRow B 38 4 v L.length (flatT L)) (h0 : 0 < L.length) : ∃ g c, v = .slice (some ⟨g, 0, none⟩) L.length c ∧ B ≤ g ∧ Turn4s w g L := by
  rcases h.2 with ⟨h1, h0'⟩ | ⟨g, cap, cur, hv, hb, hg, hnc, hcm, hcs, htake⟩
  · omega
  · refine ⟨g, cap, hv, hb, (Array.getElem?_eq_some_iff.1 hg).1, fun k hk => ?_⟩
    have hk' : L[k]? = some (tA L k) := by unfold tA; rw [List.getD, List.getElem?_eq_getElem hk]; rfl
    have cl : ∀ j u, (turn4 (tA L k))[j]? = some u → w.cell? ⟨g, k * 4 + j, none⟩ = some u := by
      intro j u hu
      have hj : j < 4 := (List.getElem?_eq_some_iff.1 hu).1
      have e := flatT_at L k _ hk' j u hu
      rw [cell_of_row w g _ cur _ _ hg]
      rw [← htake, List.getElem?_take, if_pos (by omega)] at e
      simpa using e
    exact ⟨cl 0 _ rfl, cl 1 _ rfl, cl 2 _ rfl, cl 3 _ rfl⟩
end Go.Proofs.YtphfllkkpblbaaaDoor

namespace Go.Proofs.YtphfllkkpblbaaaDoor
open Go.RowKit
set_option linter.unusedVariables false

def bringsB (t : T4) (s : Sg) : Bool := sameD s.1 (apD t.1 t.2.1 t.2.2.1 t.2.2.2 s.2.2)
def explB (A : List Sg) (t : T4) : Bool := A.all (bringsB t)
theorem expl_yes {A : List Sg} {t : T4} (h : ∀ i, i < A.length → bringsB t (sgA A i) = true) : explB A t = true := by
  unfold explB
  rw [← all_range_at, List.all_eq_true]
  exact fun i hi => h i (List.mem_range.1 hi)
theorem expl_no {A : List Sg} {t : T4} {i : Nat} (hi : i < A.length) (h : bringsB t (sgA A i) = false) : explB A t = false := by
  unfold explB
  rw [← all_range_at, List.all_eq_false]
  exact ⟨i, List.mem_range.2 hi, by rw [h]; simp⟩
/-- the first of the turns that brings all -/
def firstT (A : List Sg) (T : List T4) : T4 × Int := match T.find? (explB A) with | some t => (t, 0) | none => ((0, 0, 0, 0), 6)
theorem tA_get {T : List T4} {k : Nat} (hk : k < T.length) : T[k]? = some (tA T k) := by unfold tA; rw [List.getD_eq_getElem?_getD, List.getElem?_eq_getElem hk]; rfl
theorem first_at {A : List Sg} {T : List T4} {k : Nat} (hk : k < T.length) (h : ∀ j, j < k → explB A (tA T j) = false) (h1 : explB A (tA T k) = true) : firstT A T = (tA T k, 0) := by
  unfold firstT
  have : T.find? (explB A) = some (tA T k) := by
    rw [List.find?_eq_some_iff_getElem]
    refine ⟨h1, k, hk, ?_, fun j hj => ?_⟩
    · have := tA_get hk
      rw [List.getElem?_eq_getElem hk] at this
      exact Option.some.inj this
    · have e := tA_get (T := T) (k := j) (by omega)
      rw [List.getElem?_eq_getElem (by omega)] at e
      rw [Option.some.inj e, h j hj]
      rfl
  rw [this]
theorem first_none {A : List Sg} {T : List T4} (h : ∀ j, j < T.length → explB A (tA T j) = false) : firstT A T = ((0, 0, 0, 0), 6) := by
  unfold firstT
  have : T.find? (explB A) = none := by
    rw [List.find?_eq_none]
    intro x hx
    obtain ⟨j, hj, rfl⟩ := List.getElem_of_mem hx
    have e := tA_get (T := T) (k := j) hj
    rw [List.getElem?_eq_getElem hj] at e
    rw [Option.some.inj e, h j hj]
    simp
  rw [this]
def forV (L : List St) (S : List D3) (ids : List Int) : T4 × Int :=
  if 400 < L.length ∨ 400 < S.length ∨ 400 < ids.length then ((0, 0, 0, 0), 2)
  else if namedB L S ids = true then (if (sightsTo L S ids ids.length).length < 2 then ((0, 0, 0, 0), 10) else firstT (sightsTo L S ids ids.length) (turnsTo 625))
  else ((0, 0, 0, 0), 1)
theorem for_size {L : List St} {S : List D3} {ids : List Int} (h : 400 < L.length ∨ 400 < S.length ∨ 400 < ids.length) : forV L S ids = ((0, 0, 0, 0), 2) := by unfold forV; rw [if_pos h]
theorem for_form {L : List St} {S : List D3} {ids : List Int} (h : ¬ (400 < L.length ∨ 400 < S.length ∨ 400 < ids.length)) (h1 : namedB L S ids = false) : forV L S ids = ((0, 0, 0, 0), 1) := by unfold forV; rw [if_neg h, h1]; rfl
theorem for_few {L : List St} {S : List D3} {ids : List Int} (h : ¬ (400 < L.length ∨ 400 < S.length ∨ 400 < ids.length)) (h1 : namedB L S ids = true) (h2 : (sightsTo L S ids ids.length).length < 2) : forV L S ids = ((0, 0, 0, 0), 10) := by unfold forV; rw [if_neg h, if_pos h1, if_pos h2]
theorem for_first {L : List St} {S : List D3} {ids : List Int} (h : ¬ (400 < L.length ∨ 400 < S.length ∨ 400 < ids.length)) (h1 : namedB L S ids = true) (h2 : ¬ (sightsTo L S ids ids.length).length < 2) : forV L S ids = firstT (sightsTo L S ids ids.length) (turnsTo 625) := by unfold forV; rw [if_neg h, if_pos h1, if_neg h2]
theorem named_parts {L : List St} {S : List D3} {ids : List Int} (h : namedB L S ids = true) : skyB L = true ∧ spotsB S = true ∧ ids.length = S.length ∧ allFit (sightsTo L S ids ids.length) (sightsTo L S ids ids.length).length = true := by
  unfold namedB at h
  simp only [Bool.and_eq_true, decide_eq_true_eq] at h
  exact ⟨h.1.1.1, h.1.1.2, h.1.2, h.2⟩
/-- each sight of a naming has a star of the sky -/
theorem sight_mem {L : List St} {S : List D3} {ids : List Int} {n i : Nat} (hi : i < (sightsTo L S ids n).length) : ∃ j, j < n ∧ ids.getD j 0 ≠ 0 ∧ sgA (sightsTo L S ids n) i = sgOf L S ids j := by
  have hm : sgA (sightsTo L S ids n) i ∈ sightsTo L S ids n := by
    unfold sgA
    rw [List.getD_eq_getElem?_getD, List.getElem?_eq_getElem hi]
    exact List.getElem_mem hi
  generalize sgA (sightsTo L S ids n) i = s at hm ⊢
  unfold sightsTo at hm
  rw [List.mem_map] at hm
  obtain ⟨j, hj, rfl⟩ := hm
  rw [List.mem_filter] at hj
  exact ⟨j, List.mem_range.1 hj.1, of_decide_eq_true hj.2, rfl⟩
theorem sight_small {L : List St} {S : List D3} {ids : List Int} (h : namedB L S ids = true) {i : Nat} (hi : i < (sightsTo L S ids ids.length).length) : smallB (sgA (sightsTo L S ids ids.length) i).2.2.1 (sgA (sightsTo L S ids ids.length) i).2.2.2.1 (sgA (sightsTo L S ids ids.length) i).2.2.2.2 = true := by
  obtain ⟨h1, h2, h3, h4⟩ := named_parts h
  unfold allFit at h4
  have h5 := List.all_eq_true.1 h4 i (List.mem_range.2 hi)
  rw [Bool.and_eq_true] at h5
  obtain ⟨j, hj, h0, e⟩ := sight_mem hi
  rw [e] at h5 ⊢
  exact at_small h1 (by have h6 := h5.1; rw [Bool.not_eq_true'] at h6; exact h6)
theorem named_each {L : List St} {S : List D3} {ids : List Int} (h : namedB L S ids = true) {j : Nat} (hj : j < ids.length) (h0 : ids.getD j 0 ≠ 0) : smallB (atV L L.length (ids.getD j 0)).1 (atV L L.length (ids.getD j 0)).2.1 (atV L L.length (ids.getD j 0)).2.2 = true ∧ wideD (vA S j) = true := by
  obtain ⟨h1, h2, h3, h4⟩ := named_parts h
  rw [← named_eq] at h4
  unfold namedI at h4
  have h5 := List.all_eq_true.1 h4 j (List.mem_range.2 hj)
  rw [decide_eq_false h0, Bool.false_or, Bool.and_eq_true] at h5
  exact ⟨at_small h1 (by simpa using h5.1), okV_wide ((spots_ok h2).2 j (by omega))⟩
/-- the specification's way: each named one is brought to its spot -/
def turnedI (L : List St) (S : List D3) (ids : List Int) (t : T4) (n : Nat) : Bool := (List.range n).all fun j => decide (ids.getD j 0 = 0) || bringsB t (sgOf L S ids j)
theorem turned_eq (L : List St) (S : List D3) (ids : List Int) (t : T4) (n : Nat) : turnedI L S ids t n = explB (sightsTo L S ids n) t := (sights_all L S ids (bringsB t) n).symm
theorem turnedI_no {L : List St} {S : List D3} {ids : List Int} {t : T4} {n j : Nat} (hj : j < n) (h : (decide (ids.getD j 0 = 0) || bringsB t (sgOf L S ids j)) = false) : turnedI L S ids t n = false := by
  unfold turnedI
  rw [List.all_eq_false]
  exact ⟨j, List.mem_range.2 hj, by rw [h]; simp⟩
theorem turnedI_yes {L : List St} {S : List D3} {ids : List Int} {t : T4} {n : Nat} (h : ∀ j, j < n → (decide (ids.getD j 0 = 0) || bringsB t (sgOf L S ids j)) = true) : turnedI L S ids t n = true := by
  unfold turnedI
  rw [List.all_eq_true]
  exact fun j hj => h j (List.mem_range.1 hj)
theorem sights_count (L : List St) (S : List D3) (ids : List Int) (k : Nat) : (sightsTo L S ids (k + 1)).length = (sightsTo L S ids k).length + if ids.getD k 0 ≠ 0 then 1 else 0 := by
  rw [sights_snoc, List.length_append]
  split <;> rfl
theorem turns_right {m k : Nat} (hk : k < (turnsTo m).length) : rightT (tA (turnsTo m) k).1 (tA (turnsTo m) k).2.1 (tA (turnsTo m) k).2.2.1 (tA (turnsTo m) k).2.2.2 = true := by
  have hm : tA (turnsTo m) k ∈ turnsTo m := by unfold tA; rw [List.getD_eq_getElem?_getD, List.getElem?_eq_getElem hk]; exact List.getElem_mem hk
  generalize tA (turnsTo m) k = t at hm ⊢
  unfold turnsTo at hm
  exact (List.mem_filter.1 hm).2
set_option maxRecDepth 1000000 in
theorem turns_some : 0 < (turnsTo 625).length := by
  have h : (tOf 624).1 = 2 := by decide +kernel
  have hg : goodT (tOf 563) = true := by decide +kernel
  have hm : tOf 563 ∈ turnsTo 625 := by
    unfold turnsTo
    rw [List.mem_filter]
    exact ⟨List.mem_map.2 ⟨563, List.mem_range.2 (by omega), rfl⟩, hg⟩
  exact List.length_pos_of_mem hm
end Go.Proofs.YtphfllkkpblbaaaDoor

namespace Go.Proofs.YtphfllkkpblbaaaDoor
open Go.RowKit Go.Sort
set_option linter.unusedVariables false

def frameB (wd ht : Int) (s : ByteArray) : Bool := decide (1 ≤ wd) && decide (wd ≤ 16) && decide (1 ≤ ht) && decide (ht ≤ 12) && decide ((s.size : Int) = wd * ht)
def goodB (ar : Int) (ed : Bool) (lo hi : Int) : Bool := decide (lo ≤ ar) && decide (ar ≤ hi) && !ed
theorem frameB_iff {wd ht : Int} {s : ByteArray} : frameB wd ht s = true ↔ (1 ≤ wd ∧ wd ≤ 16 ∧ 1 ≤ ht ∧ ht ≤ 12 ∧ (s.size : Int) = wd * ht) := by
  unfold frameB
  simp only [Bool.and_eq_true, decide_eq_true_eq, and_assoc]
theorem good_yes {ar lo hi : Int} {ed : Bool} (h1 : lo ≤ ar) (h2 : ar ≤ hi) : goodB ar ed lo hi = !ed := by unfold goodB; simp [h1, h2]
theorem good_no {ar lo hi : Int} {ed : Bool} (h : ar < lo ∨ hi < ar) : goodB ar ed lo hi = false := by
  unfold goodB
  rcases h with h | h
  · rw [show decide (lo ≤ ar) = false by simp; omega]; rfl
  · rw [show decide (ar ≤ hi) = false by simp; omega]; simp
theorem frame_no {wd ht : Int} {s : ByteArray} (h : wd < 1 ∨ 16 < wd ∨ ht < 1 ∨ 12 < ht) : frameB wd ht s = false := by
  cases e : frameB wd ht s
  · rfl
  · have := frameB_iff.1 e; omega

/-- what szFrame leaves of left -/
def szI (left : Int) (s : ByteArray) : Int := if left - (s.size : Int) < 0 then -1 else left - (s.size : Int)
end Go.Proofs.YtphfllkkpblbaaaDoor

namespace Go.Proofs.YtphfllkkpblbaaaDoor
open Go.RowKit Go.Sort
set_option linter.unusedVariables false

/-- the cells vs lie at block b, from its first cell on -/
def SAt (w : World) (b : Nat) (vs : List Value) : Prop := ∀ i v, vs[i]? = some v → w.cell? ⟨b, i, none⟩ = some v
theorem SAt.lt {w : World} {b : Nat} {v : Value} {vs : List Value} (h : SAt w b (v :: vs)) : b < w.heap.size := World.block_lt_of_cell? w _ (h 0 v rfl)
theorem SAt.kept {w w' : World} {b : Nat} {v : Value} {vs : List Value} (h : SAt w b (v :: vs)) (hB : Below w.heap.size w w') : SAt w' b (v :: vs) := fun i u hu => by
  rw [hB.cell (p := ⟨b, i, none⟩) h.lt]; exact h i u hu
theorem sAt_new (w : World) (vs : List Value) (t : TypeId) : SAt (w.alloc (.cells vs.toArray t)) w.heap.size vs := fun i u hu => by
  simp [hu]
theorem SAt.c3 {w : World} {b : Nat} {x y z : Value} (h : SAt w b [x, y, z]) : w.cell? ⟨b, 0, none⟩ = some x ∧ w.cell? ⟨b, 1, none⟩ = some y ∧ w.cell? ⟨b, 2, none⟩ = some z := ⟨h 0 x rfl, h 1 y rfl, h 2 z rfl⟩
theorem SAt.c5 {w : World} {b : Nat} {x y z u v : Value} (h : SAt w b [x, y, z, u, v]) : w.cell? ⟨b, 0, none⟩ = some x ∧ w.cell? ⟨b, 1, none⟩ = some y ∧ w.cell? ⟨b, 2, none⟩ = some z ∧ w.cell? ⟨b, 3, none⟩ = some u ∧ w.cell? ⟨b, 4, none⟩ = some v := ⟨h 0 x rfl, h 1 y rfl, h 2 z rfl, h 3 u rfl, h 4 v rfl⟩
theorem neq_bool_self (b : Bool) (w : World) : (binOp .neq 4 (.bool b) (.bool b)).run Tryd.prog w = .ok (.bool false) w := by cases b <;> simp [go_sem]

end Go.Proofs.YtphfllkkpblbaaaDoor

namespace Go.Proofs.YtphfllkkpblbaaaDoor
open Go.RowKit

set_option maxRecDepth 100000 in
theorem infoByte : ∃ i : TypeInfo, Tryd.prog.info? 5 = some i ∧ i.zero = some (.int .u8 0) ∧ i.size = 1 ∧ i.bytes = 1 := by
  refine ⟨_, rfl, ?_, ?_, ?_⟩ <;> kernel_rfl

theorem setRow_alloc (w : World) (M Y : Array Value) (T : TypeId) : (w.alloc (.cells M T)).setRow w.heap.size Y = w.alloc (.cells Y T) := by
  unfold World.setRow World.alloc
  congr 1
  apply Array.ext
  · simp
  · intro i h1 h2
    have h3 : i < w.heap.size + 1 := by simpa using h2
    simp only [Array.getElem_modify, Array.getElem_push]
    by_cases e : i = w.heap.size
    · subst e; simp
    · have h4 : i < w.heap.size := by omega
      simp [Ne.symm e, h4]

theorem append_empty (a : ByteArray) : a ++ ByteArray.empty = a := by
  apply ByteArray.ext
  simp
end Go.Proofs.YtphfllkkpblbaaaDoor

namespace Go.Proofs.YtphfllkkpblbaaaDoor
open Go.RowKit Go.Sort
set_option linter.unusedVariables false

/-- block b is the row cs, none frozen -/
def Blk (w : World) (b : Nat) (cs : List Value) (t : TypeId) : Prop := w.heap[b]? = some (.cells cs.toArray t (0, 0))
theorem Blk.lt {w : World} {b : Nat} {cs : List Value} {t : TypeId} (h : Blk w b cs t) : b < w.heap.size := (Array.getElem?_eq_some_iff.1 h).1
theorem Blk.kept {w w' : World} {b : Nat} {cs : List Value} {t : TypeId} (h : Blk w b cs t) (hB : Below w.heap.size w w') : Blk w' b cs t := (hB.block b h.lt).trans h
theorem blk_new (w : World) (cs : List Value) (t : TypeId) : Blk (w.alloc (.cells cs.toArray t)) w.heap.size cs t := heap_alloc_new w _
theorem Blk.alloc {w : World} {b : Nat} {cs : List Value} {t : TypeId} (h : Blk w b cs t) (o : Obj) : Blk (w.alloc o) b cs t := h.kept (below1 _ _)
theorem Blk.cell {w : World} {b : Nat} {cs : List Value} {t : TypeId} (h : Blk w b cs t) (i : Nat) (v : Value) (hv : cs[i]? = some v) : w.cell? ⟨b, i, none⟩ = some v := by
  rw [cell_of_row w b i _ _ _ h]; simpa using hv
theorem Blk.free {w : World} {b : Nat} {cs : List Value} {t : TypeId} (h : Blk w b cs t) (i : Nat) : w.frozen? ⟨b, i, none⟩ = false := frozen_of_row w b i _ _ h
theorem Blk.set {w : World} {b : Nat} {cs : List Value} {t : TypeId} (h : Blk w b cs t) (i : Nat) (v : Value) : Blk (w.setCell ⟨b, i, none⟩ v) b (cs.set i v) t := by
  have := heap_setCell_same w b i _ _ v h
  unfold Blk
  rw [this]
  simp
theorem Blk.other {w : World} {b : Nat} {cs : List Value} {t : TypeId} (h : Blk w b cs t) (a : Addr) (v : Value) (hne : b ≠ a.block) : Blk (w.setCell a v) b cs t := by
  unfold Blk
  rw [heap_setCell_other w a b v hne]
  exact h
theorem Blk.drewn {w : World} {b : Nat} {cs : List Value} {t : TypeId} (h : Blk w b cs t) : Blk w.drew b cs t := h
/-- the first n cells of block b are the bytes f, and may be written -/
def BRow (w : World) (b n : Nat) (f : Nat → Int) : Prop := ∀ j, j < n → w.cell? ⟨b, j, none⟩ = some (.int .u8 (f j)) ∧ w.frozen? ⟨b, j, none⟩ = false
theorem BRow.kept {w w' : World} {b n : Nat} {f : Nat → Int} (h : BRow w b n f) (hb : b < w.heap.size) (hB : Below w.heap.size w w') : BRow w' b n f := fun j hj =>
  ⟨by rw [hB.cell (p := ⟨b, j, none⟩) hb]; exact (h j hj).1, by rw [hB.frozen (p := ⟨b, j, none⟩) hb]; exact (h j hj).2⟩
theorem BRow.drewn {w : World} {b n : Nat} {f : Nat → Int} (h : BRow w b n f) : BRow w.drew b n f := h
theorem BRow.congr {w : World} {b n : Nat} {f f' : Nat → Int} (h : BRow w b n f) (e : ∀ j, j < n → f j = f' j) : BRow w b n f' := fun j hj => ⟨by rw [(h j hj).1, e j hj], (h j hj).2⟩
theorem BRow.set {w : World} {b n : Nat} {f : Nat → Int} (h : BRow w b n f) (i : Nat) (hi : i < n) (v : Int) : BRow (w.setCell ⟨b, i, none⟩ (.int .u8 v)) b n (fun j => if j = i then v else f j) := fun j hj => by
  refine ⟨?_, ?_⟩
  · show _ = some (Value.int .u8 (if j = i then v else f j))
    by_cases e : j = i
    · subst e
      rw [if_pos rfl, World.cell?_setCell_same _ _ _ (h j hj).1]
    · rw [if_neg e, World.cell?_setCell_other _ _ _ _ (fun h => e (by simpa using (congrArg Addr.off h).symm)), (h j hj).1]
  · rw [← (h j hj).2]
    simp
def lessI (f d : ByteArray) (j : Nat) : Int := if byteN f j < byteN d j then 0 else (byteN f j : Int) - (byteN d j : Int)
def lessS (f d : ByteArray) : ByteArray := strOfNums ((List.range f.size).map (lessI f d))
def bothB (w1 h1 : Int) (f : ByteArray) (w2 h2 : Int) (d : ByteArray) : Bool := frameB w1 h1 f && frameB w2 h2 d && decide (w1 = w2) && decide (h1 = h2)
def lessV (w1 h1 : Int) (f : ByteArray) (w2 h2 : Int) (d : ByteArray) : Value := if bothB w1 h1 f w2 h2 d = true then .agg #[.int .i64 w1, .int .i64 h1, .string (lessS f d), .int .i64 0] else .agg #[.int .i64 0, .int .i64 0, .string ⟨#[]⟩, .int .i64 1]
end Go.Proofs.YtphfllkkpblbaaaDoor
