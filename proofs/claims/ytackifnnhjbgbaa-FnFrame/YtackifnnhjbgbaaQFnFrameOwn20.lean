/- Several texts in one: StJ. -/
import Derived.Test.YtackifnnhjbgbaaQFnFrameOwn19
namespace Go.Proofs.Ytackifnnhjbgbaa
set_option linter.unusedVariables false
set_option linter.unusedSimpArgs false
set_option maxRecDepth 100000
set_option maxHeartbeats 8000000
section
open Go.RowKit
theorem ik (g cap n : Nat) (d : Array Int) (w : World) (hsz : n ≤ 255) (hd : d.size = n) (hS : aN w g d w) :
  Calls Try.prog 19 #[.slice (some ⟨g, 0, none⟩) n cap] w fun e w' => e = .returned (.tuple #[]) ∧ ∃ d', StK n w g (fun e => Sort.PermIn 0 n d e ∧ Sort.SortedIn Sort.ltInt 0 n e) d' w' := by
 have HS := yz hS
 clear hS
 have hnn : (n : Int) ≤ 255 := by omega
 go_enter Try.func19, Try.ntmps19
 go_wp2_with fail
 refine (gQ n _ (by omega)).mono ?_
 rintro e W1 ⟨k, rfl, h1, h2, h3, hx⟩
 have HS1 := yz ((yx HS).kept hx)
 clear h2 h3 hx HS
 have c := yz (iO g cap n w hsz (n + 1) 0 n k d W1 (by omega) hd (yx HS1) (Nat.zero_le _) (Nat.le_refl _) (by omega) (.inl rfl))
 clear HS1
 go_wp2_with fail
 refine (yx c).mono ?_
 rintro e W2 ⟨rfl, d', hS⟩
 have HS2 := yz hS
 clear hS c
 go_wp2_with fail
 go_end0
 exact ⟨rfl, d', yx HS2⟩
end
end Go.Proofs.Ytackifnnhjbgbaa
