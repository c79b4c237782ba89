/- Several texts in one: LkC. -/
import Derived.Test.YtgiodlllokdcdaaGreatDoorQFnModeOwn33
namespace Go.Proofs.YtgiodlllokdcdaaGreatDoor
set_option linter.unusedVariables false
set_option linter.unusedSimpArgs false
set_option maxRecDepth 100000
set_option maxHeartbeats 8000000
section
open Go.RowKit Go.Sort
theorem oI (L : List St) (S : List D3) (lim mode A B C D coast fr : Int) (ar br : Option Addr) (cr dr : Nat) (p : Addr) (w : World) (hn : L.length ≤ 1048576) (hcap : L.length ≤ cr) (hc9 : cr ≤ 9223372036854775807) (hn2 : S.length ≤ 1048576) (hcap2 : S.length ≤ dr) (hd9 : dr ≤ 9223372036854775807) (hS : aH w ar L L.length) (hD : co w br S S.length) (hA : ∀ y, ar = some y → y.block < w.heap.size) (hB : ∀ y, br = some y → y.block < w.heap.size) (hE : aY p w) (hm : mode = 0 ∨ mode = 1 ∨ mode = 2) (hc0 : 0 ≤ coast) (hc5 : coast ≤ 5) (hf0 : 0 ≤ fr) (hf1 : fr ≤ 1000000) :
  Calls Tryz.prog 30 #[.agg #[.slice ar L.length cr, .int .i64 lim, .int .i64 mode, .int .i64 A, .int .i64 B, .int .i64 C, .int .i64 D, .int .i64 coast, .int .i64 fr], .slice br S.length dr] w fun e w' => e = .returned (tkV ar L.length cr (bS ⟨L, lim, mode, A, B, C, D, coast, fr⟩ S)) ∧ Below w.heap.size w w' := by
 have hwr : wrap64 (fr + 1) = fr + 1 := ap (by omega) (by omega)
 have B0 := yz (aM w (.cells #[.slice ar L.length cr, .int .i64 lim, .int .i64 mode, .int .i64 A, .int .i64 B, .int .i64 C, .int .i64 D, .int .i64 coast, .int .i64 (fr + 1)] 62) (.cells #[.slice none 0 0, .int .i64 0, .int .i64 0, .int .i64 0, .int .i64 0, .int .i64 0, .int .i64 0, .int .i64 0, .int .i64 0] 62))
 have A0 := yz ((aD w [.slice ar L.length cr, .int .i64 lim, .int .i64 mode, .int .i64 A, .int .i64 B, .int .i64 C, .int .i64 D, .int .i64 coast, .int .i64 (fr + 1)] 62).alloc (.cells #[.slice none 0 0, .int .i64 0, .int .i64 0, .int .i64 0, .int .i64 0, .int .i64 0, .int .i64 0, .int .i64 0, .int .i64 0] 62))
 have R0 := yz (by simpa using aD (w.alloc (.cells #[.slice ar L.length cr, .int .i64 lim, .int .i64 mode, .int .i64 A, .int .i64 B, .int .i64 C, .int .i64 D, .int .i64 coast, .int .i64 (fr + 1)] 62)) [.slice none 0 0, .int .i64 0, .int .i64 0, .int .i64 0, .int .i64 0, .int .i64 0, .int .i64 0, .int .i64 0, .int .i64 0] 62 : Blk ((w.alloc (.cells #[.slice ar L.length cr, .int .i64 lim, .int .i64 mode, .int .i64 A, .int .i64 B, .int .i64 C, .int .i64 D, .int .i64 coast, .int .i64 (fr + 1)] 62)).alloc (.cells #[.slice none 0 0, .int .i64 0, .int .i64 0, .int .i64 0, .int .i64 0, .int .i64 0, .int .i64 0, .int .i64 0, .int .i64 0] 62)) (w.heap.size + 1) [.slice none 0 0, .int .i64 0, .int .i64 0, .int .i64 0, .int .i64 0, .int .i64 0, .int .i64 0, .int .i64 0, .int .i64 0] 62)
 have cC := yz (fun (W : World) (h : Below w.heap.size w W) => pq L S ar br cr dr A B C D p W hn hcap hc9 hn2 hcap2 hd9 (hS.kept h) (hD.kept h) (hE.kept h))
 have cT := yz (fun (W : World) (h : Below w.heap.size w W) => qm L S ar br cr dr p W hn hcap hc9 hn2 hcap2 hd9 (hS.kept h) (hD.kept h) (fun y e => Nat.lt_of_lt_of_le (hA y e) h.size) (fun y e => Nat.lt_of_lt_of_le (hB y e) h.size) (hE.kept h))
 have cU := yz (fun (W : World) => ph L lim mode A B C D coast (fr + 1) ar L.length cr W hm hc0 (by omega))
 have hO1 : Hid (mode ≠ 0 → 2 ≤ aJ (aV L A B C D S) → tkV ar L.length cr (bS ⟨L, lim, mode, A, B, C, D, coast, fr⟩ S) = .agg #[.slice ar L.length cr, .int .i64 lim, .int .i64 1, .int .i64 A, .int .i64 B, .int .i64 C, .int .i64 D, .int .i64 0, .int .i64 (fr + 1)]) := yz (fun h1 h2 => by unfold bS; rw [if_pos ⟨h1, h2⟩]; rfl)
 have hO2 : Hid (¬ (mode ≠ 0 ∧ 2 ≤ aJ (aV L A B C D S)) → (aP L S).2 = 0 → tkV ar L.length cr (bS ⟨L, lim, mode, A, B, C, D, coast, fr⟩ S) = .agg #[.slice ar L.length cr, .int .i64 lim, .int .i64 1, .int .i64 (aP L S).1.1, .int .i64 (aP L S).1.2.1, .int .i64 (aP L S).1.2.2.1, .int .i64 (aP L S).1.2.2.2, .int .i64 0, .int .i64 (fr + 1)]) := yz (fun h1 h2 => by unfold bS; rw [if_neg h1, if_pos h2]; rfl)
 have hO3 : Hid (¬ (mode ≠ 0 ∧ 2 ≤ aJ (aV L A B C D S)) → (aP L S).2 ≠ 0 → tkV ar L.length cr (bS ⟨L, lim, mode, A, B, C, D, coast, fr⟩ S) = .agg #[.slice ar L.length cr, .int .i64 (aQ ⟨L, lim, mode, A, B, C, D, coast, fr + 1⟩).lim, .int .i64 (aQ ⟨L, lim, mode, A, B, C, D, coast, fr + 1⟩).mode, .int .i64 (aQ ⟨L, lim, mode, A, B, C, D, coast, fr + 1⟩).A, .int .i64 (aQ ⟨L, lim, mode, A, B, C, D, coast, fr + 1⟩).B, .int .i64 (aQ ⟨L, lim, mode, A, B, C, D, coast, fr + 1⟩).C, .int .i64 (aQ ⟨L, lim, mode, A, B, C, D, coast, fr + 1⟩).D, .int .i64 (aQ ⟨L, lim, mode, A, B, C, D, coast, fr + 1⟩).coast, .int .i64 (aQ ⟨L, lim, mode, A, B, C, D, coast, fr + 1⟩).fr]) := yz (fun h1 h2 => by unfold bS; rw [if_neg h1, if_neg h2]; rfl)
 generalize aJ (aV L A B C D S) = cn at *
 obtain ⟨⟨⟨t1, t2, t3, t4⟩, tc⟩, htv⟩ : ∃ z, aP L S = z := ⟨_, rfl⟩
 rw [htv] at hO2 hO3 cT
 dsimp only at hO2 hO3 cT
 obtain ⟨uv, huv⟩ : ∃ u, aQ ⟨L, lim, mode, A, B, C, D, coast, fr + 1⟩ = u := ⟨_, rfl⟩
 rw [huv] at hO3 cU
 obtain ⟨uL, u1, u2, u3, u4, u5, u6, u7, u8⟩ := uv
 unfold tkV at cU
 dsimp only at cU hO3
 have HL := yz htv
 clear hS hD hE htv huv hA hB hm
 by_cases h1 : mode = 0
 ·have hneg : ¬ (mode ≠ 0 ∧ 2 ≤ cn) := fun h => h.1 h1
  subst h1
  go_enter Tryz.func30, Tryz.ntmps30
  go_wp2_with fail
  refine (yy cT _ (yy B0)).mono ?_
  rintro e w2 ⟨rfl, hx⟩
  have Z := an w2 (.cells #[.int .i64 t1, .int .i64 t2, .int .i64 t3, .int .i64 t4, .int .i64 tc] 48)
  have B2 := yz (aj (aj (yy B0) hx) Z)
  have A2 := yz (((yy A0).kept hx).kept Z)
  have R2 := yz (((yy R0).kept hx).kept Z)
  have T2 := yz (aD w2 [.int .i64 t1, .int .i64 t2, .int .i64 t3, .int .i64 t4, .int .i64 tc] 48)
  clear hx Z
  obtain ⟨q0, q1, q2, q3, q4, q5, q6, q7, q8⟩ := dM (yy A2)
  obtain ⟨s0, s1, s2, s3, s4⟩ := jj (yy T2)
  by_cases h3 : tc = 0
  ·have HO := yz (yy hO2 hneg h3)
   clear hO1 hO2 hO3
   subst h3
   go_wp2_with fail
   clear q0 q1 q2 q3 q4 q5 q6 q7 q8 s0 s1 s2 s3 s4
   refine (gx lim _ A B C D coast (fr + 1) t1 t2 t3 t4 ar L.length cr _).mono ?_
   rintro e w3 ⟨rfl, hx⟩
   have B3 := yz (aj (yy B2) hx)
   have R3 := yz ((yy R2).kept hx)
   clear hx
   obtain ⟨r0, r1, r2, r3, r4, r5, r6, r7, r8⟩ := dM (yy R3)
   obtain ⟨g0, g1, g2, g3, g4, g5, g6, g7, g8⟩ := iQ (yy R3)
   go_wp2_with fail
   clear r0 r1 r2 r3 r4 r5 r6 r7 r8 g0 g1 g2 g3 g4 g5 g6 g7 g8
   rw [yy HO]
   refine bodyPost_ret (v := .agg #[.slice ar L.length cr, .int .i64 lim, .int .i64 1, .int .i64 t1, .int .i64 t2, .int .i64 t3, .int .i64 t4, .int .i64 0, .int .i64 (fr + 1)]) ?_ rfl ⟨rfl, ?_⟩
   ·refine en _ _ (w.heap.size + 1) _ lim 1 t1 t2 t3 t4 0 (fr + 1) rfl ?_
    exact di (lim0 := 0) (mode0 := 0) (A0 := 0) (B0 := 0) (C0 := 0) (D0 := 0) (coast0 := 0) (fr0 := 0) (u := .slice none 0 0) ⟨(yy R3).cell 0 _ rfl, (yy R3).cell 1 _ rfl, (yy R3).cell 2 _ rfl, (yy R3).cell 3 _ rfl, (yy R3).cell 4 _ rfl, (yy R3).cell 5 _ rfl, (yy R3).cell 6 _ rfl, (yy R3).cell 7 _ rfl, (yy R3).cell 8 _ rfl⟩ _ lim 1 t1 t2 t3 t4 0 (fr + 1)
   ·iterate 9 (refine aB ?_ (show w.heap.size ≤ w.heap.size + 1 by omega) _ _)
    exact yy B3
  ·have HO := yz (yy hO3 hneg h3)
   clear hO1 hO2 hO3
   go_wp2_with fail
   clear q0 q1 q2 q3 q4 q5 q6 q7 q8 s0 s1 s2 s3 s4
   refine (yy cU _).mono ?_
   rintro e w3 ⟨rfl, hx⟩
   have B3 := yz (aj (yy B2) hx)
   have R3 := yz ((yy R2).kept hx)
   clear hx
   obtain ⟨r0, r1, r2, r3, r4, r5, r6, r7, r8⟩ := dM (yy R3)
   obtain ⟨g0, g1, g2, g3, g4, g5, g6, g7, g8⟩ := iQ (yy R3)
   go_wp2_with fail
   clear r0 r1 r2 r3 r4 r5 r6 r7 r8 g0 g1 g2 g3 g4 g5 g6 g7 g8
   rw [yy HO]
   refine bodyPost_ret (v := .agg #[.slice ar L.length cr, .int .i64 u1, .int .i64 u2, .int .i64 u3, .int .i64 u4, .int .i64 u5, .int .i64 u6, .int .i64 u7, .int .i64 u8]) ?_ rfl ⟨rfl, ?_⟩
   ·refine en _ _ (w.heap.size + 1) _ u1 u2 u3 u4 u5 u6 u7 u8 rfl ?_
    exact di (lim0 := 0) (mode0 := 0) (A0 := 0) (B0 := 0) (C0 := 0) (D0 := 0) (coast0 := 0) (fr0 := 0) (u := .slice none 0 0) ⟨(yy R3).cell 0 _ rfl, (yy R3).cell 1 _ rfl, (yy R3).cell 2 _ rfl, (yy R3).cell 3 _ rfl, (yy R3).cell 4 _ rfl, (yy R3).cell 5 _ rfl, (yy R3).cell 6 _ rfl, (yy R3).cell 7 _ rfl, (yy R3).cell 8 _ rfl⟩ _ u1 u2 u3 u4 u5 u6 u7 u8
   ·iterate 9 (refine aB ?_ (show w.heap.size ≤ w.heap.size + 1 by omega) _ _)
    exact yy B3
 go_enter Tryz.func30, Tryz.ntmps30
 go_wp2_with fail
 refine (yy cC _ (yy B0)).mono ?_
 rintro e w1 ⟨rfl, hx⟩
 have B1 := yz (aj (yy B0) hx)
 have A1 := yz ((yy A0).kept hx)
 have R1 := yz ((yy R0).kept hx)
 clear hx B0 A0 R0
 obtain ⟨q0, q1, q2, q3, q4, q5, q6, q7, q8⟩ := dM (yy A1)
 by_cases h2 : 2 ≤ cn
 ·have HO := yz (yy hO1 h1 h2)
  clear hO1 hO2 hO3
  have h2' : (2 : Int) ≤ (cn : Int) := by omega
  go_wp2_with fail
  clear q0 q1 q2 q3 q4 q5 q6 q7 q8
  refine (gx lim mode A B C D coast (fr + 1) A B C D ar L.length cr _).mono ?_
  rintro e w3 ⟨rfl, hx⟩
  have B3 := yz (aj (yy B1) hx)
  have R3 := yz ((yy R1).kept hx)
  clear hx
  obtain ⟨r0, r1, r2, r3, r4, r5, r6, r7, r8⟩ := dM (yy R3)
  obtain ⟨g0, g1, g2, g3, g4, g5, g6, g7, g8⟩ := iQ (yy R3)
  go_wp2_with fail
  clear r0 r1 r2 r3 r4 r5 r6 r7 r8 g0 g1 g2 g3 g4 g5 g6 g7 g8
  rw [yy HO]
  refine bodyPost_ret (v := .agg #[.slice ar L.length cr, .int .i64 lim, .int .i64 1, .int .i64 A, .int .i64 B, .int .i64 C, .int .i64 D, .int .i64 0, .int .i64 (fr + 1)]) ?_ rfl ⟨rfl, ?_⟩
  ·refine en _ _ (w.heap.size + 1) _ lim 1 A B C D 0 (fr + 1) rfl ?_
   exact di (lim0 := 0) (mode0 := 0) (A0 := 0) (B0 := 0) (C0 := 0) (D0 := 0) (coast0 := 0) (fr0 := 0) (u := .slice none 0 0) ⟨(yy R3).cell 0 _ rfl, (yy R3).cell 1 _ rfl, (yy R3).cell 2 _ rfl, (yy R3).cell 3 _ rfl, (yy R3).cell 4 _ rfl, (yy R3).cell 5 _ rfl, (yy R3).cell 6 _ rfl, (yy R3).cell 7 _ rfl, (yy R3).cell 8 _ rfl⟩ _ lim 1 A B C D 0 (fr + 1)
  ·iterate 9 (refine aB ?_ (show w.heap.size ≤ w.heap.size + 1 by omega) _ _)
   exact yy B3
 have hneg : ¬ (mode ≠ 0 ∧ 2 ≤ cn) := fun h => h2 h.2
 have h2' : ¬ (2 : Int) ≤ (cn : Int) := by omega
 go_wp2_with fail
 clear q0 q1 q2 q3 q4 q5 q6 q7 q8
 refine (yy cT _ (yy B1)).mono ?_
 rintro e w2 ⟨rfl, hx⟩
 have Z := an w2 (.cells #[.int .i64 t1, .int .i64 t2, .int .i64 t3, .int .i64 t4, .int .i64 tc] 48)
 have B2 := yz (aj (aj (yy B1) hx) Z)
 have A2 := yz (((yy A1).kept hx).kept Z)
 have R2 := yz (((yy R1).kept hx).kept Z)
 have T2 := yz (aD w2 [.int .i64 t1, .int .i64 t2, .int .i64 t3, .int .i64 t4, .int .i64 tc] 48)
 clear hx Z
 obtain ⟨q0, q1, q2, q3, q4, q5, q6, q7, q8⟩ := dM (yy A2)
 obtain ⟨s0, s1, s2, s3, s4⟩ := jj (yy T2)
 by_cases h3 : tc = 0
 ·have HO := yz (yy hO2 hneg h3)
  clear hO1 hO2 hO3
  subst h3
  go_wp2_with fail
  clear q0 q1 q2 q3 q4 q5 q6 q7 q8 s0 s1 s2 s3 s4
  refine (gx lim _ A B C D coast (fr + 1) t1 t2 t3 t4 ar L.length cr _).mono ?_
  rintro e w3 ⟨rfl, hx⟩
  have B3 := yz (aj (yy B2) hx)
  have R3 := yz ((yy R2).kept hx)
  clear hx
  obtain ⟨r0, r1, r2, r3, r4, r5, r6, r7, r8⟩ := dM (yy R3)
  obtain ⟨g0, g1, g2, g3, g4, g5, g6, g7, g8⟩ := iQ (yy R3)
  go_wp2_with fail
  clear r0 r1 r2 r3 r4 r5 r6 r7 r8 g0 g1 g2 g3 g4 g5 g6 g7 g8
  rw [yy HO]
  refine bodyPost_ret (v := .agg #[.slice ar L.length cr, .int .i64 lim, .int .i64 1, .int .i64 t1, .int .i64 t2, .int .i64 t3, .int .i64 t4, .int .i64 0, .int .i64 (fr + 1)]) ?_ rfl ⟨rfl, ?_⟩
  ·refine en _ _ (w.heap.size + 1) _ lim 1 t1 t2 t3 t4 0 (fr + 1) rfl ?_
   exact di (lim0 := 0) (mode0 := 0) (A0 := 0) (B0 := 0) (C0 := 0) (D0 := 0) (coast0 := 0) (fr0 := 0) (u := .slice none 0 0) ⟨(yy R3).cell 0 _ rfl, (yy R3).cell 1 _ rfl, (yy R3).cell 2 _ rfl, (yy R3).cell 3 _ rfl, (yy R3).cell 4 _ rfl, (yy R3).cell 5 _ rfl, (yy R3).cell 6 _ rfl, (yy R3).cell 7 _ rfl, (yy R3).cell 8 _ rfl⟩ _ lim 1 t1 t2 t3 t4 0 (fr + 1)
  ·iterate 9 (refine aB ?_ (show w.heap.size ≤ w.heap.size + 1 by omega) _ _)
   exact yy B3
 ·have HO := yz (yy hO3 hneg h3)
  clear hO1 hO2 hO3
  go_wp2_with fail
  clear q0 q1 q2 q3 q4 q5 q6 q7 q8 s0 s1 s2 s3 s4
  refine (yy cU _).mono ?_
  rintro e w3 ⟨rfl, hx⟩
  have B3 := yz (aj (yy B2) hx)
  have R3 := yz ((yy R2).kept hx)
  clear hx
  obtain ⟨r0, r1, r2, r3, r4, r5, r6, r7, r8⟩ := dM (yy R3)
  obtain ⟨g0, g1, g2, g3, g4, g5, g6, g7, g8⟩ := iQ (yy R3)
  go_wp2_with fail
  clear r0 r1 r2 r3 r4 r5 r6 r7 r8 g0 g1 g2 g3 g4 g5 g6 g7 g8
  rw [yy HO]
  refine bodyPost_ret (v := .agg #[.slice ar L.length cr, .int .i64 u1, .int .i64 u2, .int .i64 u3, .int .i64 u4, .int .i64 u5, .int .i64 u6, .int .i64 u7, .int .i64 u8]) ?_ rfl ⟨rfl, ?_⟩
  ·refine en _ _ (w.heap.size + 1) _ u1 u2 u3 u4 u5 u6 u7 u8 rfl ?_
   exact di (lim0 := 0) (mode0 := 0) (A0 := 0) (B0 := 0) (C0 := 0) (D0 := 0) (coast0 := 0) (fr0 := 0) (u := .slice none 0 0) ⟨(yy R3).cell 0 _ rfl, (yy R3).cell 1 _ rfl, (yy R3).cell 2 _ rfl, (yy R3).cell 3 _ rfl, (yy R3).cell 4 _ rfl, (yy R3).cell 5 _ rfl, (yy R3).cell 6 _ rfl, (yy R3).cell 7 _ rfl, (yy R3).cell 8 _ rfl⟩ _ u1 u2 u3 u4 u5 u6 u7 u8
  ·iterate 9 (refine aB ?_ (show w.heap.size ≤ w.heap.size + 1 by omega) _ _)
   exact yy B3
end
end Go.Proofs.YtgiodlllokdcdaaGreatDoor
