/- The law FnExactSkyRead, walked. -/
import Derived.Test.YtijpnnooenpjoagDoorReadH
namespace Go.Proofs.YtijpnnooenpjoagDoor
open Go.RowKit Go.Sort
set_option linter.unusedVariables false

theorem belowR {B : Nat} {w w1 w2 : World} {row : Option Nat} (h : Below B w w1) (hg : w1.grownBy w2 row) (hB : B ≤ w1.heap.size) (hr : ∀ g, row = some g → B ≤ g) : Below B w w2 :=
  h.trans ⟨hg.os, hg.tape, hg.output, hg.size, fun k hk => hg.block k (by omega) (fun e => by have := hr k e.symm; omega)⟩

set_option maxHeartbeats 2000000 in
set_option maxRecDepth 100000 in
theorem lawSkyRead (s : ByteArray) (p : Addr) (w : World) (hs : s.size ≤ 1048576) (hE : ErrSky p w) :
    Calls Tryd.prog 6 #[.string s] w fun e w' => e = .returned (.bool true) ∧ Below w.heap.size w w' := by
  have HE := hide hE
  clear hE
  have cS : Hid (∀ W : World, Calls Tryd.prog 19 #[.string s] W fun e w' => OutR (W.heap.size + 1) (resL (readL s)) (resC (readL s)) e w' ∧ Below W.heap.size W w') := hide (fun W => (specSkyRead_any s W hs (fun L q hu h => sky_iff hu h)).mono fun e w' h => ⟨out_form h.1, h.2⟩)
  have cR : Hid (∀ W : World, ErrSky p W → Calls Tryd.prog 20 #[.string s] W fun e w' => OutR (W.heap.size + 1) (resL (readL s)) (resC (readL s)) e w' ∧ Below W.heap.size W w') := hide (fun W hW => (skyRead_any s p W hs hW).mono fun e w' h => ⟨out_form h.1, h.2⟩)
  have hL := resL_len s
  generalize resL (readL s) = L at *
  generalize resC (readL s) = code at *
  have h0 : ¬ (1048576 : Int) < (s.size : Int) := by omega
  go_enter Tryd.func6, Tryd.ntmps6
  go_wp2_with fail
  refine (unhide cS _).mono ?_
  rintro e w1 ⟨⟨a1, cap1, row1, rfl, hst, hown, hrow⟩, hx⟩
  clear hown hrow row1
  have Z1 := hide (below1 w1 (.cells #[.slice a1 L.length cap1, .int .i64 code] 38))
  have Y1 := hide (below_call hx (unhide Z1))
  have S1 := hide (hst.kept (unhide Z1))
  have O1 := hide (outAt2_new w1 (.slice a1 L.length cap1) code 38)
  clear hx hst Z1
  go_wp2_with fail
  generalize w1.alloc (.cells #[.slice a1 L.length cap1, .int .i64 code] 38) = W1 at *
  generalize w1.heap.size = b3 at *
  clear w1
  refine (unhide cR _ ((unhide HE).kept (unhide Y1))).mono ?_
  rintro e w2 ⟨⟨a2, cap2, row2, rfl, hst, hown, hrow⟩, hx⟩
  have Z2 := below1 w2 (.cells #[.slice a2 L.length cap2, .int .i64 code] 38)
  have Y2 := hide (below_call hx Z2)
  have S2 := hide (hst.kept Z2)
  have N2 := hide (hown.kept Z2)
  have O2 := hide (outAt2_new w2 (.slice a2 L.length cap2) code 38)
  have HR2 : Hid (∀ g, row2 = some g → W1.heap.size ≤ g ∧ g < w2.heap.size) := hide (fun g e => ⟨by have := hrow g e; omega, hown.lt e⟩)
  obtain ⟨p0, p1⟩ := (unhide O1).kept (unhide Y2)
  obtain ⟨q0, q1⟩ := unhide O2
  clear hx hst hown hrow Z2
  go_wp2_with fail
  clear p0 p1 q0 q1
  generalize w2.alloc (.cells #[.slice a2 L.length cap2, .int .i64 code] 38) = W2 at *
  generalize w2.heap.size = b4 at *
  clear w2
  refine (eqSkyOut_same L a2 a1 cap2 cap1 code _ hL (unhide S2) ((unhide S1).kept (unhide Y2))).mono ?_
  rintro e w3 ⟨rfl, hx⟩
  have Y3 := hide (below_call (unhide Y2) hx)
  have N3 := hide ((unhide N2).kept hx)
  have O3 := hide ((unhide O2).kept hx)
  obtain ⟨q0, q1⟩ := unhide O3
  clear hx Y2 N2 O2 S2
  go_wp2_with fail
  clear q0 q1
  refine (markSkyOut_any L.length a2 cap2 code row2 _ hL (unhide N3)).mono ?_
  rintro e w4 ⟨rfl, hm, hg⟩
  have Y4 := hide (belowR (unhide Y3) hg (unhide Y3).size (fun g e => (unhide HR2 g e).1))
  have O4 := hide ((unhide O3).grown hg (fun e => by have := (unhide HR2 b4 e.symm).2; omega))
  have M4 := hide hm
  obtain ⟨q0, q1⟩ := unhide O4
  clear hm hg Y3 O3 N3
  obtain ⟨K, hK⟩ : ∃ K : Int, K = 1 + (L.length : Int) * 4 := ⟨_, rfl⟩
  have hk0 : ¬ K < 0 := by omega
  have cH : Hid (∀ W : World, Mkd W a2 L.length row2 → Calls Tryd.prog 23 #[.agg #[.slice a2 L.length cap2, .int .i64 code], .int .i64 1] W fun e w' => e = .returned (.int .i64 K) ∧ Below W.heap.size W w') := hide (fun W h => by rw [hK]; exact heldSkyOut_any L.length a2 cap2 code row2 W hL h)
  rw [← hK]
  clear hK
  go_wp2_with fail
  clear q0 q1
  refine (unhide cH _ (unhide M4)).mono ?_
  rintro e w5 ⟨rfl, hx⟩
  have Y5 := hide (below_call (unhide Y4) hx)
  have O5 := hide ((unhide O4).kept hx)
  have M5 := hide ((unhide M4).kept hx)
  clear hx Y4 O4 M4
  go_wp2_with fail
  refine (unhide cR _ ((unhide HE).kept (below_call (unhide Y1) (unhide Y5)))).mono ?_
  rintro e w6 ⟨⟨a7, cap7, row7, rfl, hst, hown, hrow⟩, hx⟩
  clear hown hrow row7
  have Z6 := below1 w6 (.cells #[.slice a7 L.length cap7, .int .i64 code] 38)
  have Y6 := hide (below_call (below_call (unhide Y5) hx) Z6)
  have S6 := hide (hst.kept Z6)
  have O6 := hide (((unhide O5).kept hx).kept Z6)
  have M6 := hide (((unhide M5).kept hx).kept Z6)
  obtain ⟨q0, q1⟩ := outAt2_new w6 (.slice a7 L.length cap7) code 38
  obtain ⟨p0, p1⟩ := (unhide O1).kept (unhide Y6)
  clear hx hst Y5 O5 M5 Z6
  go_wp2_with fail
  clear p0 p1 q0 q1
  generalize w6.alloc (.cells #[.slice a7 L.length cap7, .int .i64 code] 38) = W6 at *
  refine (eqSkyOut_same L a7 a1 cap7 cap1 code _ hL (unhide S6) ((unhide S1).kept (unhide Y6))).mono ?_
  rintro e w7 ⟨rfl, hx⟩
  have Y7 := hide (below_call (unhide Y6) hx)
  have M7 := hide ((unhide M6).kept hx)
  obtain ⟨q0, q1⟩ := (unhide O6).kept hx
  clear hx Y6 O6 M6 S6
  go_wp2_with fail
  clear q0 q1
  refine (unhide cH _ (unhide M7)).mono ?_
  rintro e w8 ⟨rfl, hx⟩
  have Y8 := hide (below_call (unhide Y1) (below_call (unhide Y7) hx))
  clear hx
  go_wp2_with fail
  go_ret
  exact ⟨rfl, unhide Y8⟩
set_option maxRecDepth 100000 in
theorem lawSkyRead_big (s : ByteArray) (w : World) (hs : 1048576 < s.size) :
    Calls Tryd.prog 6 #[.string s] w fun e w' => e = .returned (.bool true) ∧ Below w.heap.size w w' := by
  have h0 : (1048576 : Int) < (s.size : Int) := by omega
  go_enter Tryd.func6, Tryd.ntmps6
  go_wp2_with fail
  go_ret
  exact ⟨rfl, Below.refl _ _⟩
theorem lawSkyRead_all (s : ByteArray) (ws : s.size ≤ maxLen) (w : World) (hE : ∃ p, ErrSky p w) :
    Calls Tryd.prog 6 #[.string s] w fun e w' => e = .returned (.bool true) ∧ Below w.heap.size w w' := by
  obtain ⟨p, hp⟩ := hE
  by_cases h : s.size ≤ 1048576
  · exact lawSkyRead s p w h hp
  · exact lawSkyRead_big s w (by omega)
end Go.Proofs.YtijpnnooenpjoagDoor
