/- PairsOf, the specification's. -/
import Derived.Test.YthmelofbdbplnaaDoorPairC
import Derived.Test.YthmelofbdbplnaaDoorSkyE
namespace Go.Proofs.YthmelofbdbplnaaDoor
open Go.RowKit Go.Sort
set_option linter.unusedVariables false

def pairsR (L : List St) : List P2 := if skyB L = true then allP L L.length else []

set_option maxHeartbeats 1000000 in
set_option maxRecDepth 100000 in
theorem specPairsOf_any (L : List St) (a : Option Addr) (c : Nat) (w : World) (hn : L.length ≤ 1048576) (hS : Stars w a L L.length) :
    Calls Tryd.prog 6 #[.slice a L.length c] w fun e w' => (∃ g cap, e = .returned (.slice (some ⟨g, 0, none⟩) (pairsR L).length cap) ∧ OwnP w' w.heap.size g cap (pairsR L)) ∧ Below w.heap.size w w' := by
  have cS := hide (fun (W : World) hW => specSky_any L a c W hn hW)
  have H12 : Hid (skyB L = true → L.length ≤ 12) := hide (fun h => (sky_ok h).1)
  have cP : Hid (skyB L = true → ∀ W : World, Stars W a L L.length → Calls Tryd.prog 18 #[.slice a L.length c] W fun e w' => (∃ g cap, e = .returned (.slice (some ⟨g, 0, none⟩) (pairsR L).length cap) ∧ OwnP w' W.heap.size g cap (pairsR L)) ∧ Below W.heap.size W w') := hide (fun hk W hW => by
    have e : pairsR L = allP L L.length := by unfold pairsR; rw [if_pos hk]
    rw [e]
    exact l04Pairs_any L a c W (unhide H12 hk) hW)
  have HN : Hid (skyB L = false → pairsR L = []) := hide (fun h => by unfold pairsR; rw [h]; rfl)
  have HS := hide hS
  clear hS
  generalize pairsR L = R at *
  generalize L.length = n at *
  by_cases hbig : (400 : Int) < (n : Int)
  · have hk : skyB L = false := by
      cases h : skyB L
      · rfl
      · have := unhide H12 h; omega
    obtain rfl := unhide HN hk
    clear hk cP
    have W1 := hide (ownP_new w w.heap.size (Nat.le_refl _))
    have B1 := hide (below1 w (.cells #[] 50))
    go_enter Tryd.func6, Tryd.ntmps6
    go_wp2_with fail
    go_ret
    exact ⟨⟨_, 0, rfl, unhide W1⟩, unhide B1⟩
  have hbig' : decide ((400 : Int) < (n : Int)) = false := by simpa using hbig
  go_enter Tryd.func6, Tryd.ntmps6
  go_wp2_with fail
  refine (unhide cS _ (unhide HS)).mono ?_
  rintro e w1 ⟨rfl, hx⟩
  have HB := hide hx
  clear hx
  cases hk : skyB L
  · obtain rfl := unhide HN hk
    clear hk cP
    have W1 := hide (ownP_new w1 w.heap.size (unhide HB).size)
    have B1 := hide (below_call (unhide HB) (below1 w1 (.cells #[] 50)))
    go_wp2_with fail
    go_ret
    exact ⟨⟨_, 0, rfl, unhide W1⟩, unhide B1⟩
  · have cP' := hide (unhide cP hk)
    clear hk cP
    go_wp2_with fail
    refine (unhide cP' _ ((unhide HS).kept (unhide HB))).mono ?_
    rintro e w2 ⟨⟨g, cap, rfl, ho⟩, hx⟩
    have B2 := hide (below_call (unhide HB) hx)
    have W2 := hide (ho.less (unhide HB).size)
    clear hx ho
    go_wp2_with fail
    go_ret
    exact ⟨⟨g, cap, rfl, unhide W2⟩, unhide B2⟩
end Go.Proofs.YthmelofbdbplnaaDoor
