/- The law on StarOf, walked. -/
import Derived.Test.YtijpnnooenpjoagDoorSkyI
namespace Go.Proofs.YtijpnnooenpjoagDoor
open Go.RowKit Go.Sort
set_option linter.unusedVariables false

set_option maxHeartbeats 1000000 in
set_option maxRecDepth 100000 in
theorem lawStarOf (L : List St) (a : Option Addr) (c : Nat) (id : Int) (p : Addr) (w : World) (hn : L.length ≤ 1048576) (hS : Stars w a L L.length) (hE : ErrSky p w) :
    Calls Tryd.prog 7 #[.slice a L.length c, .int .i64 id] w fun e w' => e = .returned (.bool true) ∧ Below w.heap.size w w' := by
  have HS := hide hS
  have HE := hide hE
  clear hS hE
  have cT := hide (fun W hW => toStarS_any L a c W hn hW)
  have cS := hide (fun (W : World) (b k : Nat) hW => specStarOf_any L id (some ⟨b, 0, none⟩) k W hn hW)
  have cR := hide (fun (W : World) (b : Nat) hW hE => starOf_any L id (some ⟨b, 0, none⟩) L.length p W hn (Nat.le_refl _) (by omega) hW hE)
  generalize starV L id = v at cS cR
  obtain ⟨x, y, z⟩ := v
  unfold vecV at cS cR
  generalize L.length = n at *
  have h0 : ¬ (1048576 : Int) - (n : Int) < 0 := by omega
  go_enter Tryd.func7, Tryd.ntmps7
  go_wp2_with fail
  refine (szStarS_any a n c _ hn).mono ?_
  rintro e w1 ⟨rfl, hw⟩
  rw [hw]
  clear hw w1
  go_wp2_with fail
  refine (unhide cT _ (unhide HS)).mono ?_
  rintro e w1 ⟨rfl, ho1, hb1⟩
  have O1 := hide ho1
  have HB1 := hide hb1
  generalize w.heap.size = b1 at O1 ⊢
  clear ho1 hb1
  go_wp2_with fail
  refine (unhide cS _ b1 n (unhide O1).stars).mono ?_
  rintro e w2 ⟨rfl, hx⟩
  have HB2 := hide ((below_call (unhide HB1) hx).alloc (below_call (unhide HB1) hx).size (.cells #[.int .i64 x, .int .i64 y, .int .i64 z] 43))
  have A2 := hide (vecAt_new w2 x y z 43)
  clear hx HB1 O1
  go_wp2_with fail
  generalize w2.alloc (.cells #[.int .i64 x, .int .i64 y, .int .i64 z] 43) = W2 at HB2 A2 ⊢
  generalize w2.heap.size = q2 at A2 ⊢
  refine (unhide cT _ ((unhide HS).kept (unhide HB2))).mono ?_
  rintro e w3 ⟨rfl, ho3, hx⟩
  have HB3 := hide (below_call (unhide HB2) hx)
  have A3 := hide ((unhide A2).kept (vlt (unhide A2)) hx)
  have O3 := hide ho3
  generalize W2.heap.size = b3 at O3 ⊢
  clear hx HB2 ho3 A2
  go_wp2_with fail
  refine (unhide cR _ b3 (unhide O3).stars ((unhide HE).kept (unhide HB3))).mono ?_
  rintro e w4 ⟨rfl, hx⟩
  have HB4 := hide ((below_call (unhide HB3) hx).alloc (below_call (unhide HB3) hx).size (.cells #[.int .i64 x, .int .i64 y, .int .i64 z] 43))
  have O4 := hide (((unhide O3).kept hx).kept (below1 w4 (.cells #[.int .i64 x, .int .i64 y, .int .i64 z] 43)))
  have A4 := hide (((unhide A3).kept (vlt (unhide A3)) hx).kept (vlt ((unhide A3).kept (vlt (unhide A3)) hx)) (below1 w4 (.cells #[.int .i64 x, .int .i64 y, .int .i64 z] 43)))
  have A5 := hide (vecAt_new w4 x y z 43)
  clear hx HB3 O3 A3
  obtain ⟨d0, d1, d2⟩ := unhide A4
  go_wp2_with fail
  clear d0 d1 d2 A4 A5
  generalize w4.alloc (.cells #[.int .i64 x, .int .i64 y, .int .i64 z] 43) = W4 at HB4 O4 ⊢
  refine (eqVec_same x y z _).mono ?_
  rintro e w5 ⟨rfl, hx⟩
  have HB5 := hide (below_call (unhide HB4) hx)
  have O5 := hide ((unhide O4).kept hx)
  clear hx HB4 O4
  go_wp2_with fail
  refine (unhide cT _ ((unhide HS).kept (unhide HB5))).mono ?_
  rintro e w6 ⟨rfl, ho6, hx⟩
  have HB6 := hide (below_call (unhide HB5) hx)
  have O6 := hide ((unhide O5).kept hx)
  have O7 := hide ho6
  generalize w5.heap.size = b6 at O7 ⊢
  clear hx HB5 O5 ho6
  go_wp2_with fail
  refine (eqStarS_same L n (some ⟨b3, 0, none⟩) (some ⟨b6, 0, none⟩) n n _ hn (unhide O6).stars (unhide O7).stars).mono ?_
  rintro e w7 ⟨rfl, hx⟩
  have hB := below_call (unhide HB6) hx
  go_wp2_with fail
  go_ret
  exact ⟨rfl, hB⟩
set_option maxRecDepth 100000 in
theorem lawStarOf_big (n : Nat) (a : Option Addr) (c : Nat) (id : Int) (w : World) (hn : 1048576 < n) (hm : n ≤ 9223372036854775807) :
    Calls Tryd.prog 7 #[.slice a n c, .int .i64 id] w fun e w' => e = .returned (.bool true) ∧ Below w.heap.size w w' := by
  go_enter Tryd.func7, Tryd.ntmps7
  go_wp2_with fail
  refine (szStarS_big a n c _ hn hm).mono ?_
  rintro e w1 ⟨rfl, hw⟩
  rw [hw]
  go_wp2_with fail
  go_ret
  exact ⟨rfl, Below.refl _ _⟩
theorem lawStarOf_all (L : List St) (a : Option Addr) (len cap : Nat) (hl : L.length = len) (hm : len ≤ maxLen) (id : Int) (w : World) (hS : Stars w a L len) (hE : ∃ p, ErrSky p w) :
    Calls Tryd.prog 7 #[.slice a len cap, .int .i64 id] w fun e w' => e = .returned (.bool true) ∧ Below w.heap.size w w' := by
  obtain ⟨p, hp⟩ := hE
  subst hl
  have hm' : maxLen ≤ 9223372036854775807 := by decide +kernel
  by_cases h : L.length ≤ 1048576
  · exact lawStarOf L a cap id p w h hS hp
  · exact lawStarOf_big L.length a cap id w (by omega) (by omega)
end Go.Proofs.YtijpnnooenpjoagDoor
