/- Named: the specification's. -/
import Derived.Test.YtdkfbfiofniblaaDoorNaD
namespace Go.Proofs.YtdkfbfiofniblaaDoor
open Go.RowKit Go.Sort
set_option linter.unusedVariables false

theorem named_is {L : List St} {S : List D3} {ids : List Int} (h1 : skyB L = true) (h2 : spotsB S = true) : (decide (ids.length = S.length) && namedI L S ids ids.length) = namedB L S ids := by
  unfold namedB
  rw [h1, h2, named_eq]
  rfl
theorem named_long {L : List St} {S : List D3} {ids : List Int} (h : 6 < ids.length) : namedB L S ids = false := by
  cases h2 : spotsB S
  · exact named_no2 h2
  · exact named_no3 (by have := (spots_ok h2).1; omega)
set_option maxHeartbeats 4000000 in
set_option maxRecDepth 100000 in
theorem specNamed_any (L : List St) (S : List D3) (ids : List Int) (ar br ir : Option Addr) (cr dr er : Nat) (w : World) (hn : L.length ≤ 1048576) (hn2 : S.length ≤ 1048576) (hn3 : ids.length ≤ 1048576) (hd : S.length ≤ dr) (he : ids.length ≤ er) (hS : Stars w ar L L.length) (hD : Dirs w br S S.length) (hI : Nums w ir ids ids.length) :
    Calls Tryd.prog 9 #[.slice ar L.length cr, .slice br S.length dr, .slice ir ids.length er] w fun e w' => e = .returned (.bool (namedB L S ids)) ∧ Below w.heap.size w w' := by
  have cK := hide (fun (W : World) hW => specSky_any L ar cr W hn hW)
  have cP := hide (fun (W : World) hW => specSpotsRight_any S br dr W hn2 hW)
  have cM : Hid (skyB L = true → spotsB S = true → ∀ W : World, Stars W ar L L.length → Dirs W br S S.length → Nums W ir ids ids.length → Calls Tryd.prog 34 #[.slice ar L.length cr, .slice br S.length dr, .slice ir ids.length er] W fun e w' => e = .returned (.bool (namedB L S ids)) ∧ Below W.heap.size W w') := hide (fun hk hp W h1 h2 h3 => by
    rw [← named_is hk hp]
    exact l06Named_any L S ids ar br ir cr dr er W hk hp hn3 hd he h1 h2 h3)
  have H1 : Hid (skyB L = false → namedB L S ids = false) := hide named_no1
  have H2 : Hid (spotsB S = false → namedB L S ids = false) := hide named_no2
  have H5 : Hid (400 < L.length → namedB L S ids = false) := hide (fun h => named_no1 (sky_long (by omega)))
  have H6 : Hid (400 < S.length → namedB L S ids = false) := hide (fun h => named_no2 (spots_long (by omega)))
  have H7 : Hid (400 < ids.length → namedB L S ids = false) := hide (fun h => named_long (by omega))
  have HS := hide hS
  have HD := hide hD
  have HI := hide hI
  clear hS hD hI
  generalize namedB L S ids = R at *
  generalize S.length = m at *
  generalize ids.length = k at *
  generalize L.length = n at *
  by_cases hbn : 400 < n
  · have hb' : decide ((n : Int) ≤ 400) = false := by simp; omega
    have hb2 : ¬ (n : Int) ≤ 400 := by omega
    obtain rfl := unhide H5 hbn
    go_enter Tryd.func9, Tryd.ntmps9
    go_wp2_with fail
    go_ret
    exact ⟨rfl, Below.refl _ _⟩
  have hbn' : decide ((n : Int) ≤ 400) = true := by simp; omega
  have hbn2 : (n : Int) ≤ 400 := by omega
  by_cases hbm : 400 < m
  · have hb' : decide ((m : Int) ≤ 400) = false := by simp; omega
    have hb2 : ¬ (m : Int) ≤ 400 := by omega
    obtain rfl := unhide H6 hbm
    go_enter Tryd.func9, Tryd.ntmps9
    go_wp2_with fail
    go_ret
    exact ⟨rfl, Below.refl _ _⟩
  have hbm' : decide ((m : Int) ≤ 400) = true := by simp; omega
  have hbm2 : (m : Int) ≤ 400 := by omega
  by_cases hbk : 400 < k
  · have hb' : decide ((k : Int) ≤ 400) = false := by simp; omega
    have hb2 : ¬ (k : Int) ≤ 400 := by omega
    obtain rfl := unhide H7 hbk
    go_enter Tryd.func9, Tryd.ntmps9
    go_wp2_with fail
    go_ret
    exact ⟨rfl, Below.refl _ _⟩
  have hbk' : decide ((k : Int) ≤ 400) = true := by simp; omega
  have hbk2 : (k : Int) ≤ 400 := by omega
  go_enter Tryd.func9, Tryd.ntmps9
  go_wp2_with fail
  refine (unhide cK _ (unhide HS)).mono ?_
  rintro e W1 ⟨rfl, hx⟩
  have B1 := hide hx
  clear hx
  cases hk : skyB L
  · obtain rfl := unhide H1 hk
    go_wp2_with fail
    go_ret
    exact ⟨rfl, unhide B1⟩
  go_wp2_with fail
  refine (unhide cP _ ((unhide HD).kept (unhide B1))).mono ?_
  rintro e W2 ⟨rfl, hx⟩
  have B2 := hide (below_call (unhide B1) hx)
  clear hx B1
  cases hp : spotsB S
  · obtain rfl := unhide H2 hp
    go_wp2_with fail
    go_ret
    exact ⟨rfl, unhide B2⟩
  have cM' := hide (unhide cM hk hp)
  clear hk hp cM cK cP H1 H2 H5 H6 H7
  go_wp2_with fail
  refine (unhide cM' _ ((unhide HS).kept (unhide B2)) ((unhide HD).kept (unhide B2)) ((unhide HI).kept (unhide B2))).mono ?_
  rintro e W3 ⟨rfl, hx⟩
  go_wp2_with fail
  go_ret
  exact ⟨rfl, below_call (unhide B2) hx⟩
end Go.Proofs.YtdkfbfiofniblaaDoor
