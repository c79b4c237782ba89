/- Several texts in one: LkF. -/
import Derived.Test.YtgiodlllokdcdaaGreatDoorQFnModeOwn39
namespace Go.Proofs.YtgiodlllokdcdaaGreatDoor
set_option linter.unusedVariables false
set_option linter.unusedSimpArgs false
set_option maxRecDepth 100000
set_option maxHeartbeats 8000000
section
open Go.RowKit Go.Sort
theorem et (L : List St) (S : List D3) (lim mode A B C D coast fr : Int) (ad : Option Addr) (c : Nat) (br : Option Addr) (dr : Nat) (w : World) (hn : L.length ≤ 1048576) (hn2 : S.length ≤ 1048576) (hS : aH w ad L L.length) (hD : co w br S S.length) (hb : ∀ y, ad = some y → y.block < w.heap.size) (hB : ∀ y, br = some y → y.block < w.heap.size) (hdr : S.length ≤ dr) (hd9 : dr ≤ 9223372036854775807) :
  Calls Tryz.prog 11 #[.agg #[.slice ad L.length c, .int .i64 lim, .int .i64 mode, .int .i64 A, .int .i64 B, .int .i64 C, .int .i64 D, .int .i64 coast, .int .i64 fr], .slice br S.length dr] w fun e w' => mG w' w.heap.size (bd ⟨L, lim, mode, A, B, C, D, coast, fr⟩ S) (dP ⟨L, lim, mode, A, B, C, D, coast, fr⟩ S) e ∧ Below w.heap.size w w' := by
 have B0 := yz (aM w (.cells #[.slice ad L.length c, .int .i64 lim, .int .i64 mode, .int .i64 A, .int .i64 B, .int .i64 C, .int .i64 D, .int .i64 coast, .int .i64 fr] 27) (.cells #[.slice none 0 0, .int .i64 0, .int .i64 0, .int .i64 0, .int .i64 0, .int .i64 0, .int .i64 0, .int .i64 0, .int .i64 0, .int .i64 0] 32))
 have A0 := yz ((aD w [.slice ad L.length c, .int .i64 lim, .int .i64 mode, .int .i64 A, .int .i64 B, .int .i64 C, .int .i64 D, .int .i64 coast, .int .i64 fr] 27).alloc (.cells #[.slice none 0 0, .int .i64 0, .int .i64 0, .int .i64 0, .int .i64 0, .int .i64 0, .int .i64 0, .int .i64 0, .int .i64 0, .int .i64 0] 32))
 have R0 := yz (by simpa using aD (w.alloc (.cells #[.slice ad L.length c, .int .i64 lim, .int .i64 mode, .int .i64 A, .int .i64 B, .int .i64 C, .int .i64 D, .int .i64 coast, .int .i64 fr] 27)) [.slice none 0 0, .int .i64 0, .int .i64 0, .int .i64 0, .int .i64 0, .int .i64 0, .int .i64 0, .int .i64 0, .int .i64 0, .int .i64 0] 32 : Blk ((w.alloc (.cells #[.slice ad L.length c, .int .i64 lim, .int .i64 mode, .int .i64 A, .int .i64 B, .int .i64 C, .int .i64 D, .int .i64 coast, .int .i64 fr] 27)).alloc (.cells #[.slice none 0 0, .int .i64 0, .int .i64 0, .int .i64 0, .int .i64 0, .int .i64 0, .int .i64 0, .int .i64 0, .int .i64 0, .int .i64 0] 32)) (w.heap.size + 1) [.slice none 0 0, .int .i64 0, .int .i64 0, .int .i64 0, .int .i64 0, .int .i64 0, .int .i64 0, .int .i64 0, .int .i64 0, .int .i64 0] 32)
 have S0 := yz (hS.kept (yy B0))
 have D0 := yz (hD.kept (yy B0))
 have hl0 : w.heap.size + 1 + 1 ≤ ((w.alloc (.cells #[.slice ad L.length c, .int .i64 lim, .int .i64 mode, .int .i64 A, .int .i64 B, .int .i64 C, .int .i64 D, .int .i64 coast, .int .i64 fr] 27)).alloc (.cells #[.slice none 0 0, .int .i64 0, .int .i64 0, .int .i64 0, .int .i64 0, .int .i64 0, .int .i64 0, .int .i64 0, .int .i64 0, .int .i64 0] 32)).heap.size := by simp
 clear hS hD
 by_cases hbig : 400 < S.length
 ·have HO := yz (pR (t := ⟨L, lim, mode, A, B, C, D, coast, fr⟩) hbig)
  have hb' : (400 : Int) < (S.length : Int) := by omega
  clear hbig
  go_enter Tryz.func11, Tryz.ntmps11
  go_wp2_with fail
  refine (cu 2 _).mono ?_
  rintro e wz ⟨rfl, hx⟩
  have Rz := yz ((yy R0).kept hx)
  have Bz := yz (aj (yy B0) hx)
  clear hx
  obtain ⟨r0, r1, r2, r3, r4, r5, r6, r7, r8, r9⟩ := ej (yy Rz)
  obtain ⟨g0, g1, g2, g3, g4, g5, g6, g7, g8, g9⟩ := eB (yy Rz)
  go_wp2_with fail
  clear r0 r1 r2 r3 r4 r5 r6 r7 r8 r9 g0 g1 g2 g3 g4 g5 g6 g7 g8 g9
  refine bodyPost_ret (v := .agg #[.slice none 0 0, .int .i64 0, .int .i64 0, .int .i64 0, .int .i64 0, .int .i64 0, .int .i64 0, .int .i64 0, .int .i64 0, .int .i64 2]) ?_ rfl ⟨?_, ?_⟩
  ·exact fV _ _ (w.heap.size + 1) _ 0 0 0 0 0 0 0 0 2 rfl (bY (bi (yy Rz) rfl _ 0 0 0 0 0 0 0 0 2))
  ·rw [(yy HO).1, (yy HO).2]
   exact bz _ _ _
  ·iterate 10 (refine aB ?_ (show w.heap.size ≤ w.heap.size + 1 by omega) _ _)
   exact yy Bz
 have hb' : ¬ (400 : Int) < (S.length : Int) := by omega
 have cR := yz (dW L lim mode A B C D coast fr ad c _ hn (yy S0))
 go_enter Tryz.func11, Tryz.ntmps11
 go_wp2_with fail
 refine (yy cR).mono ?_
 rintro e w1 ⟨rfl, hx⟩
 have A1 := yz ((yy A0).kept hx)
 have R1 := yz ((yy R0).kept hx)
 have S1 := yz ((yy S0).kept hx)
 have D1 := yz ((yy D0).kept hx)
 have B1 := yz (aj (yy B0) hx)
 have hl1 := hx.size
 clear hx cR A0 R0 S0 D0 B0
 cases hk : aG ⟨L, lim, mode, A, B, C, D, coast, fr⟩
 ·have HO := yz (jt (t := ⟨L, lim, mode, A, B, C, D, coast, fr⟩) (S := S) hbig (by rw [hk]; rfl))
  clear hk
  go_wp2_with fail
  refine (cu 1 _).mono ?_
  rintro e wz ⟨rfl, hx⟩
  have Rz := yz ((yy R1).kept hx)
  have Bz := yz (aj (yy B1) hx)
  clear hx
  obtain ⟨r0, r1, r2, r3, r4, r5, r6, r7, r8, r9⟩ := ej (yy Rz)
  obtain ⟨g0, g1, g2, g3, g4, g5, g6, g7, g8, g9⟩ := eB (yy Rz)
  go_wp2_with fail
  clear r0 r1 r2 r3 r4 r5 r6 r7 r8 r9 g0 g1 g2 g3 g4 g5 g6 g7 g8 g9
  refine bodyPost_ret (v := .agg #[.slice none 0 0, .int .i64 0, .int .i64 0, .int .i64 0, .int .i64 0, .int .i64 0, .int .i64 0, .int .i64 0, .int .i64 0, .int .i64 1]) ?_ rfl ⟨?_, ?_⟩
  ·exact fV _ _ (w.heap.size + 1) _ 0 0 0 0 0 0 0 0 1 rfl (bY (bi (yy Rz) rfl _ 0 0 0 0 0 0 0 0 1))
  ·rw [(yy HO).1, (yy HO).2]
   exact bz _ _ _
  ·iterate 10 (refine aB ?_ (show w.heap.size ≤ w.heap.size + 1 by omega) _ _)
   exact yy Bz
 go_wp2_with fail
 refine (fm S br dr _ hn2 (yy D1)).mono ?_
 rintro e w2 ⟨rfl, hx⟩
 have A2 := yz ((yy A1).kept hx)
 have R2 := yz ((yy R1).kept hx)
 have S2 := yz ((yy S1).kept hx)
 have D2 := yz ((yy D1).kept hx)
 have B2 := yz (aj (yy B1) hx)
 have hl2 := hx.size
 clear hx A1 R1 S1 D1 B1
 cases hp : aN S
 ·have HO := yz (jt (t := ⟨L, lim, mode, A, B, C, D, coast, fr⟩) (S := S) hbig (by rw [hp]; simp))
  clear hk hp
  go_wp2_with fail
  refine (cu 1 _).mono ?_
  rintro e wz ⟨rfl, hx⟩
  have Rz := yz ((yy R2).kept hx)
  have Bz := yz (aj (yy B2) hx)
  clear hx
  obtain ⟨r0, r1, r2, r3, r4, r5, r6, r7, r8, r9⟩ := ej (yy Rz)
  obtain ⟨g0, g1, g2, g3, g4, g5, g6, g7, g8, g9⟩ := eB (yy Rz)
  go_wp2_with fail
  clear r0 r1 r2 r3 r4 r5 r6 r7 r8 r9 g0 g1 g2 g3 g4 g5 g6 g7 g8 g9
  refine bodyPost_ret (v := .agg #[.slice none 0 0, .int .i64 0, .int .i64 0, .int .i64 0, .int .i64 0, .int .i64 0, .int .i64 0, .int .i64 0, .int .i64 0, .int .i64 1]) ?_ rfl ⟨?_, ?_⟩
  ·exact fV _ _ (w.heap.size + 1) _ 0 0 0 0 0 0 0 0 1 rfl (bY (bi (yy Rz) rfl _ 0 0 0 0 0 0 0 0 1))
  ·rw [(yy HO).1, (yy HO).2]
   exact bz _ _ _
  ·iterate 10 (refine aB ?_ (show w.heap.size ≤ w.heap.size + 1 by omega) _ _)
   exact yy Bz
 obtain ⟨hsk, hmd, hrt, hco, hfr⟩ := kD hk
 dsimp only at hsk hmd hrt hco hfr
 by_cases hf : fr = 1000000
 ·have HO := yz (nD (t := ⟨L, lim, mode, A, B, C, D, coast, fr⟩) (S := S) hbig hk hp hf)
  have hf' : (1000000 : Int) ≤ fr := by omega
  clear hk hp hsk hmd hrt hco hfr
  obtain ⟨q0, q1, q2, q3, q4, q5, q6, q7, q8⟩ := dM (yy A2)
  go_wp2_with fail
  clear q0 q1 q2 q3 q4 q5 q6 q7 q8
  refine (cu 9 _).mono ?_
  rintro e wz ⟨rfl, hx⟩
  have Rz := yz ((yy R2).kept hx)
  have Bz := yz (aj (yy B2) hx)
  clear hx
  obtain ⟨r0, r1, r2, r3, r4, r5, r6, r7, r8, r9⟩ := ej (yy Rz)
  obtain ⟨g0, g1, g2, g3, g4, g5, g6, g7, g8, g9⟩ := eB (yy Rz)
  go_wp2_with fail
  clear r0 r1 r2 r3 r4 r5 r6 r7 r8 r9 g0 g1 g2 g3 g4 g5 g6 g7 g8 g9
  refine bodyPost_ret (v := .agg #[.slice none 0 0, .int .i64 0, .int .i64 0, .int .i64 0, .int .i64 0, .int .i64 0, .int .i64 0, .int .i64 0, .int .i64 0, .int .i64 9]) ?_ rfl ⟨?_, ?_⟩
  ·exact fV _ _ (w.heap.size + 1) _ 0 0 0 0 0 0 0 0 9 rfl (bY (bi (yy Rz) rfl _ 0 0 0 0 0 0 0 0 9))
  ·rw [(yy HO).1, (yy HO).2]
   exact bz _ _ _
  ·iterate 10 (refine aB ?_ (show w.heap.size ≤ w.heap.size + 1 by omega) _ _)
   exact yy Bz
 have HO := yz (jv (t := ⟨L, lim, mode, A, B, C, D, coast, fr⟩) (S := S) hbig hk hp hf)
 have hf' : ¬ (1000000 : Int) ≤ fr := by omega
 have cK := yz (pQ L S lim mode A B C D coast fr ad c br dr w2 hn hdr hd9 (yy S2) (yy D2) (fun y e => by have := hb y e; omega) (fun y e => by have := hB y e; omega) hsk hp hmd hrt hco.1 hco.2 hfr.1 hfr.2)
 obtain ⟨lr, hlr⟩ : ∃ z, bS ⟨L, lim, mode, A, B, C, D, coast, fr⟩ S = z := ⟨_, rfl⟩
 have HL := yz (oH ⟨L, lim, mode, A, B, C, D, coast, fr⟩ S)
 rw [hlr] at HO HL cK
 obtain ⟨L2, lim2, mode2, A2', B2', C2, D2', coast2, fr2⟩ := lr
 dsimp only at HL
 clear hk hp hlr hsk hmd hrt hco hfr hf
 obtain ⟨q0, q1, q2, q3, q4, q5, q6, q7, q8⟩ := dM (yy A2)
 go_wp2_with fail
 clear q0 q1 q2 q3 q4 q5 q6 q7 q8
 refine (yy cK).mono ?_
 rintro e w3 ⟨⟨a, cap, he, hC⟩, hx⟩
 dsimp only at he hC
 have hL3 : L2 = L := yy HL
 subst hL3
 subst he
 have C5 := yz (hC.low (B' := w.heap.size + 1 + 1) (by omega))
 have R5 := yz ((yy R2).kept hx)
 have B5 := yz (aj (yy B2) hx)
 clear hx hC R2 B2 A2 S2 D2 cK
 obtain ⟨r0, r1, r2, r3, r4, r5, r6, r7, r8, r9⟩ := ej (yy R5)
 obtain ⟨g0, g1, g2, g3, g4, g5, g6, g7, g8, g9⟩ := eB (yy R5)
 go_wp2_with fail
 clear r0 r1 r2 r3 r4 r5 r6 r7 r8 r9 g0 g1 g2 g3 g4 g5 g6 g7 g8 g9
 refine bodyPost_ret (v := .agg #[.slice a L2.length cap, .int .i64 lim2, .int .i64 mode2, .int .i64 A2', .int .i64 B2', .int .i64 C2, .int .i64 D2', .int .i64 coast2, .int .i64 fr2, .int .i64 0]) ?_ rfl ⟨?_, ?_⟩
 ·exact fV _ _ (w.heap.size + 1) _ lim2 mode2 A2' B2' C2 D2' coast2 fr2 0 rfl (bY (bi (yy R5) rfl _ lim2 mode2 A2' B2' C2 D2' coast2 fr2 0))
 ·rw [(yy HO).1, (yy HO).2]
  refine ⟨a, cap, rfl, ?_⟩
  refine aq.low (B := w.heap.size + 1 + 1) ?_ (by omega)
  iterate 10 (refine aq.far ?_ (Nat.lt_succ_self (w.heap.size + 1)) _ _)
  exact yy C5
 ·iterate 10 (refine aB ?_ (show w.heap.size ≤ w.heap.size + 1 by omega) _ _)
  exact yy B5
end
end Go.Proofs.YtgiodlllokdcdaaGreatDoor
