/- Several texts in one: StA. -/
import Derived.Test.YtackifnnhjbgbaaQFnFrameOwn10
namespace Go.Proofs.Ytackifnnhjbgbaa
set_option linter.unusedVariables false
set_option linter.unusedSimpArgs false
set_option maxRecDepth 100000
set_option maxHeartbeats 8000000
section
open Go.RowKit
theorem gq (x : Int) (w : World) : Calls Try.prog 55 #[.int .u8 x] w fun e w' => e = .returned (.bool false) ∧ Below w.heap.size w w' := by
 go_enter Try.func55, Try.ntmps55
 go_wp2_with fail
 go_ret
 exact ⟨by simp, Below.refl _ _⟩
theorem aA (x y : Int) (w : World) : Calls Try.prog 43 #[.int .u8 x, .int .u8 y] w fun e w' => e = .returned (.bool (Sort.ltInt x y)) ∧ Below w.heap.size w w' := by
 go_enter Try.func43, Try.ntmps43
 go_wp2_with fail
 refine (gq _ _).mono ?_
 rintro e W1 ⟨rfl, hx⟩
 go_wp2_with fail
 go_ret
 exact ⟨rfl, hx⟩
theorem fD (g cap a b : Nat) (d : Array Int) (w0 w : World) (hS : aN w0 g d w) (hab : a ≤ b) (hb : b ≤ d.size) (hsz : d.size ≤ 1048576) :
  Calls Try.prog 41 #[.slice (some ⟨g, 0, none⟩) d.size cap, .int .i64 a, .int .i64 b] w fun e w' => e = .returned (.tuple #[]) ∧ ∃ d', Sort.PermIn a b d d' ∧ aN w0 g d' w' := by
 have HS := yz hS
 clear hS
 go_enter Try.func41, Try.ntmps41
 go_wp2_with fail
 go_loopw [6, 7] (fun u v wr => ∃ (i : Nat) (j : Int) (dk : Array Int), u = .int .i64 i ∧ v = .int .i64 j ∧ a ≤ i ∧ j < b ∧ Hid (dk.size = d.size ∧ Sort.PermIn a b d dk ∧ aN w0 g dk wr)) (fun u v _ => (intOf v - intOf u).toNat)
 case atStart => exact ⟨a, (b : Int) - 1, d, rfl, rfl, by omega, by omega, yz ⟨rfl, Sort.permIn_refl d a b, yx HS⟩⟩
 case round =>
  obtain ⟨i, j, dk, rfl, rfl, hi, hj, HK⟩ := hrel
  by_cases hlt : (i : Int) < j
  ·obtain ⟨jn, rfl⟩ := Int.eq_ofNat_of_zero_le (show 0 ≤ j by omega)
   have hi2 : i < d.size := by omega
   have hj2 : jn < d.size := by omega
   obtain ⟨x, HX⟩ : ∃ x, Hid (x = dk[i]!) := ⟨_, yz rfl⟩
   obtain ⟨y, HY⟩ : ∃ y, Hid (y = dk[jn]!) := ⟨_, yz rfl⟩
   have ci : wr.cell? ⟨g, i, none⟩ = some (.int .u8 x) := by rw [yx HX]; exact (yx HK).2.2.cells i (by have := (yx HK).1; omega)
   have cj : wr.cell? ⟨g, jn, none⟩ = some (.int .u8 y) := by rw [yx HY]; exact (yx HK).2.2.cells jn (by have := (yx HK).1; omega)
   have fi := (yx HK).2.2.free i (by have := (yx HK).1; omega)
   have fj := (yx HK).2.2.free jn (by have := (yx HK).1; omega)
   go_wp2_with fail
   go_region
   go_wp2_with fail
   go_roundw
   case rel =>
    obtain ⟨h1, h2, h3⟩ := yx HK
    exact ⟨i + 1, (jn : Int) - 1, Sort.swp dk i jn, by go_num, rfl, by omega, by omega, yz ⟨by rw [Sort.size_swp]; exact h1, er h2 hb (by omega) (by omega) (by omega) (by omega), h3.swp2 h1 i jn hi2 hj2 HX HY⟩⟩
   case measure => simp [intOf] <;> omega
  ·go_wp2_with fail
   go_end0
   exact ⟨rfl, dk, (yx HK).2.1, (yx HK).2.2⟩
end
end Go.Proofs.Ytackifnnhjbgbaa
