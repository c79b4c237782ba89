/- The greatest shared number, and Prime: the program's and the specification's. -/
import Derived.Test.YtofpjlhoppofdaaGreatDoorVecD
import Derived.Deep.QuietTactic
import Derived.BigQuiet
import Derived.BigRegion
namespace Go.Proofs.YtofpjlhoppofdaaGreatDoor
open Go.RowKit
set_option linter.unusedVariables false

theorem rem_fits {a b : Int} (h : b ≠ 0) (hb : -1000000 ≤ b ∧ b ≤ 1000000) : wrap64 (a.tmod b) = a.tmod b ∧ -1000000 ≤ a.tmod b ∧ a.tmod b ≤ 1000000 := by
  have := tmod_lt a b h
  have h2 : -1000000 ≤ a.tmod b ∧ a.tmod b ≤ 1000000 := by omega
  exact ⟨wrap_id (by omega) (by omega), h2⟩

theorem below_drewN (w : World) (n : Nat) : Below w.heap.size w (w.drewN n) := ⟨rfl, rfl, rfl, Nat.le_refl _, fun _ _ => rfl⟩

set_option maxRecDepth 100000 in
theorem shared_any (a b : Int) (w : World) (ha : -1000000 ≤ a ∧ a ≤ 1000000) (hb : -1000000 ≤ b ∧ b ≤ 1000000) :
    Calls Tryz.prog 138 #[.int .i64 a, .int .i64 b] w fun e w' => e = .returned (.int .i64 ((Int.gcd a b : Nat) : Int)) ∧ ∃ n, w' = w.drewN n := by
  go_enter Tryz.func138, Tryz.ntmps138
  go_wp2
  go_loopw [0, 1] (fun u v wr => ∃ p q : Int, u = .int .i64 p ∧ v = .int .i64 q ∧ Hid (-1000000 ≤ p ∧ p ≤ 1000000) ∧ Hid (-1000000 ≤ q ∧ q ≤ 1000000) ∧ Hid (Int.gcd p q = Int.gcd a b) ∧ ∃ n, wr = w.drewN n) (fun _ v _ => (intOf v).natAbs)
  case atStart => exact ⟨a, b, rfl, rfl, hide ha, hide hb, hide rfl, 0, rfl⟩
  case round =>
    obtain ⟨p, q, rfl, rfl, hp, hq, hg, nd, rfl⟩ := hrel
    by_cases h0 : q = 0
    · subst h0
      have HG := hide (gcd_zero p)
      by_cases hn : p < 0
      · have HW : Hid (wrap64 (-p) = -p) := hide (by have := unhide hp; exact wrap_id (by omega) (by omega))
        have HR := hide (show ((Int.gcd a b : Nat) : Int) = -p by rw [← unhide hg, unhide HG, if_pos hn])
        go_wp2
        go_ret
        exact ⟨by rw [unhide HR]; exact congrArg (fun x => Ending.returned (Value.int .i64 x)) (unhide HW), nd, rfl⟩
      · have HR := hide (show ((Int.gcd a b : Nat) : Int) = p by rw [← unhide hg, unhide HG, if_neg hn])
        go_wp2
        go_ret
        exact ⟨by rw [unhide HR]; rfl, nd, rfl⟩
    · have hz : (q == 0) = false := by simp [h0]
      have hr := rem_fits (a := p) h0 (unhide hq)
      have HL := hide (tmod_lt p q h0)
      have HS := hide (gcd_step p q)
      obtain ⟨r, hre⟩ : ∃ r, p.tmod q = r := ⟨_, rfl⟩
      have hrw := hr.1
      have HRB := hide hr.2
      rw [hre] at hrw HRB HL HS
      clear hr
      go_wp2
      go_region
      go_wp2
      go_roundw
      case rel => exact ⟨q, r, rfl, rfl, hq, HRB, hide ((unhide HS).trans (unhide hg)), nd + 1, rfl⟩
      case measure => simp [intOf]; exact unhide HL

set_option maxRecDepth 100000 in
theorem l02Gcd_any (a b : Int) (w : World) (ha : -1000000 ≤ a ∧ a ≤ 1000000) (hb : -1000000 ≤ b ∧ b ≤ 1000000) :
    Calls Tryz.prog 106 #[.int .i64 a, .int .i64 b] w fun e w' => e = .returned (.int .i64 ((Int.gcd a b : Nat) : Int)) ∧ ∃ n, w' = w.drewN n := by
  go_enter Tryz.func106, Tryz.ntmps106
  go_wp2
  go_loopw [0, 1] (fun u v wr => ∃ p q : Int, u = .int .i64 p ∧ v = .int .i64 q ∧ Hid (-1000000 ≤ p ∧ p ≤ 1000000) ∧ Hid (-1000000 ≤ q ∧ q ≤ 1000000) ∧ Hid (Int.gcd p q = Int.gcd a b) ∧ ∃ n, wr = w.drewN n) (fun _ v _ => (intOf v).natAbs)
  case atStart => exact ⟨a, b, rfl, rfl, hide ha, hide hb, hide rfl, 0, rfl⟩
  case round =>
    obtain ⟨p, q, rfl, rfl, hp, hq, hg, nd, rfl⟩ := hrel
    by_cases h0 : q = 0
    · subst h0
      have HG := hide (gcd_zero p)
      by_cases hn : p < 0
      · have HW : Hid (wrap64 (-p) = -p) := hide (by have := unhide hp; exact wrap_id (by omega) (by omega))
        have HR := hide (show ((Int.gcd a b : Nat) : Int) = -p by rw [← unhide hg, unhide HG, if_pos hn])
        go_wp2
        go_ret
        exact ⟨by rw [unhide HR]; exact congrArg (fun x => Ending.returned (Value.int .i64 x)) (unhide HW), nd, rfl⟩
      · have HR := hide (show ((Int.gcd a b : Nat) : Int) = p by rw [← unhide hg, unhide HG, if_neg hn])
        go_wp2
        go_ret
        exact ⟨by rw [unhide HR]; rfl, nd, rfl⟩
    · have hz : (q == 0) = false := by simp [h0]
      have hr := rem_fits (a := p) h0 (unhide hq)
      have HL := hide (tmod_lt p q h0)
      have HS := hide (gcd_step p q)
      obtain ⟨r, hre⟩ : ∃ r, p.tmod q = r := ⟨_, rfl⟩
      have hrw := hr.1
      have HRB := hide hr.2
      rw [hre] at hrw HRB HL HS
      clear hr
      go_wp2
      go_roundw
      case rel => exact ⟨q, r, rfl, rfl, hq, HRB, hide ((unhide HS).trans (unhide hg)), nd, rfl⟩
      case measure => simp [intOf]; exact unhide HL

set_option maxRecDepth 100000 in
theorem l02Prime_any (x y z : Int) (w : World) (hr : rightB x y z = true) :
    Calls Tryz.prog 63 #[.agg #[.int .i64 x, .int .i64 y, .int .i64 z]] w fun e w' => e = .returned (.agg #[.int .i64 (wrap64 (x.tdiv (gI x y z))), .int .i64 (wrap64 (y.tdiv (gI x y z))), .int .i64 (wrap64 (z.tdiv (gI x y z)))]) ∧ Below w.heap.size w w' := by
  obtain ⟨⟨hx, hy, hz⟩, _⟩ := rightB_iff.1 hr
  have hg1 := gcd_le hx hy
  have hpos := gI_pos hr
  go_enter Tryz.func63, Tryz.ntmps63
  go_wp2_with fail
  go_quiet (first | (go_at_call_of 106 (Value.int IntKind.i64 x); refine Calls.quiet_of (l02Gcd_any x y _ hx hy)) | (go_at_call 106; refine Calls.quiet_of (l02Gcd_any _ z _ ?_ hz); omega))
  have hz0 : (gI x y z == 0) = false := by simp; omega
  have hgi : ((Int.gcd ((Int.gcd x y : Nat) : Int) z : Nat) : Int) = gI x y z := rfl
  rw [hgi]
  clear hgi
  generalize hge : gI x y z = g at hpos hz0 ⊢
  have HG := hide hge
  clear hge
  have va : VecAt (((w.alloc (.cells #[.int .i64 x, .int .i64 y, .int .i64 z] 76)).alloc (.cells #[.int .i64 0, .int .i64 0, .int .i64 0] 76)).drewN nq) w.heap.size x y z := ((vecAt_new w x y z _).alloc (by simp) _)
  have vr : VecAt (((w.alloc (.cells #[.int .i64 x, .int .i64 y, .int .i64 z] 76)).alloc (.cells #[.int .i64 0, .int .i64 0, .int .i64 0] 76)).drewN nq) (w.heap.size + 1) 0 0 0 := (by simpa using vecAt_new (w.alloc (.cells #[.int .i64 x, .int .i64 y, .int .i64 z] 76)) 0 0 0 76 : VecAt ((w.alloc (.cells #[.int .i64 x, .int .i64 y, .int .i64 z] 76)).alloc (.cells #[.int .i64 0, .int .i64 0, .int .i64 0] 76)) (w.heap.size + 1) 0 0 0)
  have fr : FreeAt (((w.alloc (.cells #[.int .i64 x, .int .i64 y, .int .i64 z] 76)).alloc (.cells #[.int .i64 0, .int .i64 0, .int .i64 0] 76)).drewN nq) (w.heap.size + 1) := (by simpa using freeAt_new (w.alloc (.cells #[.int .i64 x, .int .i64 y, .int .i64 z] 76)) 0 0 0 76 : FreeAt ((w.alloc (.cells #[.int .i64 x, .int .i64 y, .int .i64 z] 76)).alloc (.cells #[.int .i64 0, .int .i64 0, .int .i64 0] 76)) (w.heap.size + 1))
  have hB : Below w.heap.size w (((w.alloc (.cells #[.int .i64 x, .int .i64 y, .int .i64 z] 76)).alloc (.cells #[.int .i64 0, .int .i64 0, .int .i64 0] 76)).drewN nq) := below_call (below2 _ _ _) (below_drewN _ _)
  generalize ((w.alloc (.cells #[.int .i64 x, .int .i64 y, .int .i64 z] 76)).alloc (.cells #[.int .i64 0, .int .i64 0, .int .i64 0] 76)).drewN nq = w1 at va vr fr hB ⊢
  obtain ⟨ca0, ca1, ca2⟩ := va
  obtain ⟨cr0, cr1, cr2⟩ := vr
  obtain ⟨fr0, fr1, fr2⟩ := fr
  clear hg1 hx hy hz hr
  go_wp2_with fail
  go_region
  go_wp2
  exact bodyPost_ret (v := .agg #[.int .i64 (wrap64 (x.tdiv g)), .int .i64 (wrap64 (y.tdiv g)), .int .i64 (wrap64 (z.tdiv g))]) (by simp [results, Tryz.results63, go_sem, cr0, cr1, cr2]) rfl ⟨by rw [unhide HG], (below_set3 hB (by omega) _ _ _).drew⟩
end Go.Proofs.YtofpjlhoppofdaaGreatDoor
