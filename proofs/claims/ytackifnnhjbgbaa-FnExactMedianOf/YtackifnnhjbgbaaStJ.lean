/- slices.Sort over bytes. -/
import Derived.Test.YtackifnnhjbgbaaStI
namespace Go.Proofs.Ytackifnnhjbgbaa
open Go.RowKit
set_option linter.unusedVariables false
set_option linter.unusedSimpArgs false

set_option maxHeartbeats 1600000 in
set_option maxRecDepth 1000000 in
theorem sort8_any (g cap n : Nat) (d : Array Int) (w : World) (hsz : n ≤ 255) (hd : d.size = n) (hS : SrtR w g d w) :
    Calls Try.prog 19 #[.slice (some ⟨g, 0, none⟩) n cap] w fun e w' => e = .returned (.tuple #[]) ∧ ∃ d', StK n w g (fun e => Sort.PermIn 0 n d e ∧ Sort.SortedIn Sort.ltInt 0 n e) d' w' := by
  have HS := hide hS
  clear hS
  have hnn : (n : Int) ≤ 255 := by omega
  go_enter Try.func19, Try.ntmps19
  go_wp2_with fail
  refine (len_any n _ (by omega)).mono ?_
  rintro e W1 ⟨k, rfl, h1, h2, h3, hx⟩
  have HS1 := hide ((unhide HS).kept hx)
  clear h2 h3 hx HS
  have c := hide (pdq8_any g cap n w hsz (n + 1) 0 n k d W1 (by omega) hd (unhide HS1) (Nat.zero_le _) (Nat.le_refl _) (by omega) (.inl rfl))
  clear HS1
  go_wp2_with fail
  refine (unhide c).mono ?_
  rintro e W2 ⟨rfl, d', hS⟩
  have HS2 := hide hS
  clear hS c
  go_wp2_with fail
  go_end0
  exact ⟨rfl, d', unhide HS2⟩
end Go.Proofs.Ytackifnnhjbgbaa
