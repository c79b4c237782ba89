/- The law on SpotsRight, walked. -/
import Derived.Test.YtmoopgdcbbaffaaIdC
namespace Go.Proofs.Ytmoopgdcbbaffaa
open Go.RowKit Go.Sort
set_option linter.unusedVariables false

set_option maxHeartbeats 1000000 in
set_option maxRecDepth 100000 in
theorem lawSpotsRight (L : List D3) (a : Option Addr) (c : Nat) (w : World) (hn : L.length ≤ 1048576) (hS : Dirs w a L L.length) :
    Calls Try.prog 4 #[.slice a L.length c] w fun e w' => e = .returned (.bool true) ∧ Below w.heap.size w w' := by
  have HS := hide hS
  clear hS
  obtain ⟨n, hnl⟩ : ∃ n, L.length = n := ⟨_, rfl⟩
  have HL := hide hnl
  have cT := hide (fun W hW => toVecS_any L L.length a c W hn hW)
  have cS := hide (fun (W : World) (b k : Nat) hW => specSpotsRight_any L (some ⟨b, 0, none⟩) k W hn hW)
  have cR := hide (fun (W : World) (b : Nat) hW => spotsRight_any L (some ⟨b, 0, none⟩) L.length W hn (Nat.le_refl _) (by omega) hW)
  rw [hnl] at hn cT cS cR HS ⊢
  clear hnl
  have h0 : ¬ (1048576 : Int) - (n : Int) < 0 := by omega
  go_enter Try.func4, Try.ntmps4
  go_wp2_with fail
  refine (szVecS_any a n c 1048576 _ (by omega) (by omega) (by omega)).mono ?_
  rintro e w1 ⟨rfl, hw⟩
  rw [hw]
  clear hw w1
  go_wp2_with fail
  refine (unhide cT _ (unhide HS)).mono ?_
  rintro e w1 ⟨rfl, ho1, hb1⟩
  have O1 := hide ho1
  have HB1 := hide hb1
  generalize w.heap.size = b1 at O1 ⊢
  clear ho1 hb1
  go_wp2_with fail
  refine (unhide cS _ b1 n (unhide O1).dirs).mono ?_
  rintro e w2 ⟨rfl, hx⟩
  have HB2 := hide (below_call (unhide HB1) hx)
  clear hx HB1 O1
  go_wp2_with fail
  refine (unhide cT _ ((unhide HS).kept (unhide HB2))).mono ?_
  rintro e w3 ⟨rfl, ho3, hx⟩
  have HB3 := hide (below_call (unhide HB2) hx)
  have O3 := hide ho3
  generalize w2.heap.size = b3 at O3 ⊢
  clear hx HB2 ho3
  go_wp2_with fail
  refine (unhide cR _ b3 (unhide O3).dirs).mono ?_
  rintro e w4 ⟨rfl, hx⟩
  have HB4 := hide (below_call (unhide HB3) hx)
  have O4 := hide ((unhide O3).kept hx)
  clear hx HB3 O3
  generalize spotsB L = y
  go_wp2_with fail
  refine (unhide cT _ ((unhide HS).kept (unhide HB4))).mono ?_
  rintro e w5 ⟨rfl, ho5, hx⟩
  have HB5 := hide (below_call (unhide HB4) hx)
  have O5 := hide ((unhide O4).kept hx)
  have O6 := hide ho5
  generalize w4.heap.size = b5 at O6 ⊢
  clear hx HB4 O4 ho5
  go_wp2_with fail
  refine (eqVecS_same L n (some ⟨b3, 0, none⟩) (some ⟨b5, 0, none⟩) n n _ hn (unhide O5).dirs (unhide O6).dirs).mono ?_
  rintro e w6 ⟨rfl, hx⟩
  have hB := below_call (unhide HB5) hx
  go_wp2_with fail
  go_ret
  exact ⟨rfl, hB⟩
set_option maxRecDepth 100000 in
theorem lawSpotsRight_big (n : Nat) (a : Option Addr) (c : Nat) (w : World) (hn : 1048576 < n) (hm : n ≤ 9223372036854775807) :
    Calls Try.prog 4 #[.slice a n c] w fun e w' => e = .returned (.bool true) ∧ Below w.heap.size w w' := by
  go_enter Try.func4, Try.ntmps4
  go_wp2_with fail
  refine (szVecS_big a n c 1048576 _ (by omega) (by omega) (by omega) hm).mono ?_
  rintro e w1 ⟨rfl, hw⟩
  rw [hw]
  go_wp2_with fail
  go_ret
  exact ⟨rfl, Below.refl _ _⟩
theorem lawSpotsRight_all (L : List D3) (a : Option Addr) (len cap : Nat) (hl : L.length = len) (hm : len ≤ maxLen) (w : World) (hS : Dirs w a L len) :
    Calls Try.prog 4 #[.slice a len cap] w fun e w' => e = .returned (.bool true) ∧ Below w.heap.size w w' := by
  subst hl
  have hm' : maxLen ≤ 9223372036854775807 := by decide +kernel
  by_cases h : L.length ≤ 1048576
  · exact lawSpotsRight L a cap w h hS
  · exact lawSpotsRight_big L.length a cap w (by omega) (by omega)
end Go.Proofs.Ytmoopgdcbbaffaa
