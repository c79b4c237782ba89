/- Several texts in one: LkC, ModN, LkD. -/
import Derived.Test.YteoonaanoenjiaaGreatDoorQObeyOwn20
import Derived.Test.YteoonaanoenjiaaGreatDoorQObeyOwn18
namespace Go.Proofs.YteoonaanoenjiaaGreatDoor
open Go.RowKit Go.Sort
set_option linter.unusedVariables false
set_option linter.unusedSimpArgs false
set_option maxHeartbeats 8000000 in
set_option maxRecDepth 100000 in
theorem lookedAt_any (L : List St) (S : List D3) (lim mode A B C D coast fr : Int) (ar br : Option Addr) (cr dr : Nat) (p : Addr) (w : World) (hn : L.length ≤ 1048576) (hcap : L.length ≤ cr) (hc9 : cr ≤ 9223372036854775807) (hn2 : S.length ≤ 1048576) (hcap2 : S.length ≤ dr) (hd9 : dr ≤ 9223372036854775807) (hS : Stars w ar L L.length) (hD : Dirs w br S S.length) (hA : ∀ y, ar = some y → y.block < w.heap.size) (hB : ∀ y, br = some y → y.block < w.heap.size) (hE : ErrSky p w) (hm : mode = 0 ∨ mode = 1 ∨ mode = 2) (hc0 : 0 ≤ coast) (hc5 : coast ≤ 5) (hf0 : 0 ≤ fr) (hf1 : fr ≤ 1000000) :
    Calls Tryz.prog 114 #[.agg #[.slice ar L.length cr, .int .i64 lim, .int .i64 mode, .int .i64 A, .int .i64 B, .int .i64 C, .int .i64 D, .int .i64 coast, .int .i64 fr], .slice br S.length dr] w fun e w' => e = .returned (tkV ar L.length cr (lookR ⟨L, lim, mode, A, B, C, D, coast, fr⟩ S)) ∧ Below w.heap.size w w' := by
  have hwr : wrap64 (fr + 1) = fr + 1 := wrap_id (by omega) (by omega)
  have B0 := yz (below2 w (.cells #[.slice ar L.length cr, .int .i64 lim, .int .i64 mode, .int .i64 A, .int .i64 B, .int .i64 C, .int .i64 D, .int .i64 coast, .int .i64 (fr + 1)] 92) (.cells #[.slice none 0 0, .int .i64 0, .int .i64 0, .int .i64 0, .int .i64 0, .int .i64 0, .int .i64 0, .int .i64 0, .int .i64 0] 92))
  have A0 := yz ((blk_new w [.slice ar L.length cr, .int .i64 lim, .int .i64 mode, .int .i64 A, .int .i64 B, .int .i64 C, .int .i64 D, .int .i64 coast, .int .i64 (fr + 1)] 92).alloc (.cells #[.slice none 0 0, .int .i64 0, .int .i64 0, .int .i64 0, .int .i64 0, .int .i64 0, .int .i64 0, .int .i64 0, .int .i64 0] 92))
  have R0 := yz (by simpa using blk_new (w.alloc (.cells #[.slice ar L.length cr, .int .i64 lim, .int .i64 mode, .int .i64 A, .int .i64 B, .int .i64 C, .int .i64 D, .int .i64 coast, .int .i64 (fr + 1)] 92)) [.slice none 0 0, .int .i64 0, .int .i64 0, .int .i64 0, .int .i64 0, .int .i64 0, .int .i64 0, .int .i64 0, .int .i64 0] 92 : Blk ((w.alloc (.cells #[.slice ar L.length cr, .int .i64 lim, .int .i64 mode, .int .i64 A, .int .i64 B, .int .i64 C, .int .i64 D, .int .i64 coast, .int .i64 (fr + 1)] 92)).alloc (.cells #[.slice none 0 0, .int .i64 0, .int .i64 0, .int .i64 0, .int .i64 0, .int .i64 0, .int .i64 0, .int .i64 0, .int .i64 0] 92)) (w.heap.size + 1) [.slice none 0 0, .int .i64 0, .int .i64 0, .int .i64 0, .int .i64 0, .int .i64 0, .int .i64 0, .int .i64 0, .int .i64 0] 92)
  have cC := yz (fun (W : World) (h : Below w.heap.size w W) => countAt_any L S ar br cr dr A B C D p W hn hcap hc9 hn2 hcap2 hd9 (hS.kept h) (hD.kept h) (hE.kept h))
  have cT := yz (fun (W : World) (h : Below w.heap.size w W) => turnOfS_any L S ar br cr dr p W hn hcap hc9 hn2 hcap2 hd9 (hS.kept h) (hD.kept h) (fun y e => Nat.lt_of_lt_of_le (hA y e) h.size) (fun y e => Nat.lt_of_lt_of_le (hB y e) h.size) (hE.kept h))
  have cU := yz (fun (W : World) => unseeing_any L lim mode A B C D coast (fr + 1) ar L.length cr W hm hc0 (by omega))
  have hO1 : Hid (mode ≠ 0 → 2 ≤ cntN (matchL L A B C D S) → tkV ar L.length cr (lookR ⟨L, lim, mode, A, B, C, D, coast, fr⟩ S) = .agg #[.slice ar L.length cr, .int .i64 lim, .int .i64 1, .int .i64 A, .int .i64 B, .int .i64 C, .int .i64 D, .int .i64 0, .int .i64 (fr + 1)]) := yz (fun h1 h2 => by unfold lookR; rw [if_pos ⟨h1, h2⟩]; rfl)
  have hO2 : Hid (¬ (mode ≠ 0 ∧ 2 ≤ cntN (matchL L A B C D S)) → (turnOfV L S).2 = 0 → tkV ar L.length cr (lookR ⟨L, lim, mode, A, B, C, D, coast, fr⟩ S) = .agg #[.slice ar L.length cr, .int .i64 lim, .int .i64 1, .int .i64 (turnOfV L S).1.1, .int .i64 (turnOfV L S).1.2.1, .int .i64 (turnOfV L S).1.2.2.1, .int .i64 (turnOfV L S).1.2.2.2, .int .i64 0, .int .i64 (fr + 1)]) := yz (fun h1 h2 => by unfold lookR; rw [if_neg h1, if_pos h2]; rfl)
  have hO3 : Hid (¬ (mode ≠ 0 ∧ 2 ≤ cntN (matchL L A B C D S)) → (turnOfV L S).2 ≠ 0 → tkV ar L.length cr (lookR ⟨L, lim, mode, A, B, C, D, coast, fr⟩ S) = .agg #[.slice ar L.length cr, .int .i64 (unseenT ⟨L, lim, mode, A, B, C, D, coast, fr + 1⟩).lim, .int .i64 (unseenT ⟨L, lim, mode, A, B, C, D, coast, fr + 1⟩).mode, .int .i64 (unseenT ⟨L, lim, mode, A, B, C, D, coast, fr + 1⟩).A, .int .i64 (unseenT ⟨L, lim, mode, A, B, C, D, coast, fr + 1⟩).B, .int .i64 (unseenT ⟨L, lim, mode, A, B, C, D, coast, fr + 1⟩).C, .int .i64 (unseenT ⟨L, lim, mode, A, B, C, D, coast, fr + 1⟩).D, .int .i64 (unseenT ⟨L, lim, mode, A, B, C, D, coast, fr + 1⟩).coast, .int .i64 (unseenT ⟨L, lim, mode, A, B, C, D, coast, fr + 1⟩).fr]) := yz (fun h1 h2 => by unfold lookR; rw [if_neg h1, if_neg h2]; rfl)
  generalize cntN (matchL L A B C D S) = cn at *
  obtain ⟨⟨⟨t1, t2, t3, t4⟩, tc⟩, htv⟩ : ∃ z, turnOfV L S = z := ⟨_, rfl⟩
  rw [htv] at hO2 hO3 cT
  dsimp only at hO2 hO3 cT
  obtain ⟨uv, huv⟩ : ∃ u, unseenT ⟨L, lim, mode, A, B, C, D, coast, fr + 1⟩ = u := ⟨_, rfl⟩
  rw [huv] at hO3 cU
  obtain ⟨uL, u1, u2, u3, u4, u5, u6, u7, u8⟩ := uv
  unfold tkV at cU
  dsimp only at cU hO3
  have HL := yz htv
  clear hS hD hE htv huv hA hB hm
  by_cases h1 : mode = 0
  · have hneg : ¬ (mode ≠ 0 ∧ 2 ≤ cn) := fun h => h.1 h1
    subst h1
    go_enter Tryz.func114, Tryz.ntmps114
    go_wp2_with fail
    refine (yx cT _ (yx B0)).mono ?_
    rintro e w2 ⟨rfl, hx⟩
    have Z := below1 w2 (.cells #[.int .i64 t1, .int .i64 t2, .int .i64 t3, .int .i64 t4, .int .i64 tc] 156)
    have B2 := yz (below_call (below_call (yx B0) hx) Z)
    have A2 := yz (((yx A0).kept hx).kept Z)
    have R2 := yz (((yx R0).kept hx).kept Z)
    have T2 := yz (blk_new w2 [.int .i64 t1, .int .i64 t2, .int .i64 t3, .int .i64 t4, .int .i64 tc] 156)
    clear hx Z
    obtain ⟨q0, q1, q2, q3, q4, q5, q6, q7, q8⟩ := bcs9 (yx A2)
    obtain ⟨s0, s1, s2, s3, s4⟩ := bcs5 (yx T2)
    by_cases h3 : tc = 0
    · have HO := yz (yx hO2 hneg h3)
      clear hO1 hO2 hO3
      subst h3
      go_wp2_with fail
      clear q0 q1 q2 q3 q4 q5 q6 q7 q8 s0 s1 s2 s3 s4
      refine (tracking_any lim _ A B C D coast (fr + 1) t1 t2 t3 t4 ar L.length cr _).mono ?_
      rintro e w3 ⟨rfl, hx⟩
      have B3 := yz (below_call (yx B2) hx)
      have R3 := yz ((yx R2).kept hx)
      clear hx
      obtain ⟨r0, r1, r2, r3, r4, r5, r6, r7, r8⟩ := bcs9 (yx R3)
      obtain ⟨g0, g1, g2, g3, g4, g5, g6, g7, g8⟩ := bfs9 (yx R3)
      go_wp2_with fail
      clear r0 r1 r2 r3 r4 r5 r6 r7 r8 g0 g1 g2 g3 g4 g5 g6 g7 g8
      rw [yx HO]
      refine bodyPost_ret (v := .agg #[.slice ar L.length cr, .int .i64 lim, .int .i64 1, .int .i64 t1, .int .i64 t2, .int .i64 t3, .int .i64 t4, .int .i64 0, .int .i64 (fr + 1)]) ?_ rfl ⟨rfl, ?_⟩
      · refine res_lookedAt _ _ (w.heap.size + 1) _ lim 1 t1 t2 t3 t4 0 (fr + 1) rfl ?_
        exact tkAt_set9 (lim0 := 0) (mode0 := 0) (A0 := 0) (B0 := 0) (C0 := 0) (D0 := 0) (coast0 := 0) (fr0 := 0) (u := .slice none 0 0) ⟨(yx R3).cell 0 _ rfl, (yx R3).cell 1 _ rfl, (yx R3).cell 2 _ rfl, (yx R3).cell 3 _ rfl, (yx R3).cell 4 _ rfl, (yx R3).cell 5 _ rfl, (yx R3).cell 6 _ rfl, (yx R3).cell 7 _ rfl, (yx R3).cell 8 _ rfl⟩ _ lim 1 t1 t2 t3 t4 0 (fr + 1)
      · iterate 9 (refine belowSet ?_ (show w.heap.size ≤ w.heap.size + 1 by omega) _ _)
        exact yx B3
    · have HO := yz (yx hO3 hneg h3)
      clear hO1 hO2 hO3
      go_wp2_with fail
      clear q0 q1 q2 q3 q4 q5 q6 q7 q8 s0 s1 s2 s3 s4
      refine (yx cU _).mono ?_
      rintro e w3 ⟨rfl, hx⟩
      have B3 := yz (below_call (yx B2) hx)
      have R3 := yz ((yx R2).kept hx)
      clear hx
      obtain ⟨r0, r1, r2, r3, r4, r5, r6, r7, r8⟩ := bcs9 (yx R3)
      obtain ⟨g0, g1, g2, g3, g4, g5, g6, g7, g8⟩ := bfs9 (yx R3)
      go_wp2_with fail
      clear r0 r1 r2 r3 r4 r5 r6 r7 r8 g0 g1 g2 g3 g4 g5 g6 g7 g8
      rw [yx HO]
      refine bodyPost_ret (v := .agg #[.slice ar L.length cr, .int .i64 u1, .int .i64 u2, .int .i64 u3, .int .i64 u4, .int .i64 u5, .int .i64 u6, .int .i64 u7, .int .i64 u8]) ?_ rfl ⟨rfl, ?_⟩
      · refine res_lookedAt _ _ (w.heap.size + 1) _ u1 u2 u3 u4 u5 u6 u7 u8 rfl ?_
        exact tkAt_set9 (lim0 := 0) (mode0 := 0) (A0 := 0) (B0 := 0) (C0 := 0) (D0 := 0) (coast0 := 0) (fr0 := 0) (u := .slice none 0 0) ⟨(yx R3).cell 0 _ rfl, (yx R3).cell 1 _ rfl, (yx R3).cell 2 _ rfl, (yx R3).cell 3 _ rfl, (yx R3).cell 4 _ rfl, (yx R3).cell 5 _ rfl, (yx R3).cell 6 _ rfl, (yx R3).cell 7 _ rfl, (yx R3).cell 8 _ rfl⟩ _ u1 u2 u3 u4 u5 u6 u7 u8
      · iterate 9 (refine belowSet ?_ (show w.heap.size ≤ w.heap.size + 1 by omega) _ _)
        exact yx B3
  go_enter Tryz.func114, Tryz.ntmps114
  go_wp2_with fail
  refine (yx cC _ (yx B0)).mono ?_
  rintro e w1 ⟨rfl, hx⟩
  have B1 := yz (below_call (yx B0) hx)
  have A1 := yz ((yx A0).kept hx)
  have R1 := yz ((yx R0).kept hx)
  clear hx B0 A0 R0
  obtain ⟨q0, q1, q2, q3, q4, q5, q6, q7, q8⟩ := bcs9 (yx A1)
  by_cases h2 : 2 ≤ cn
  · have HO := yz (yx hO1 h1 h2)
    clear hO1 hO2 hO3
    have h2' : (2 : Int) ≤ (cn : Int) := by omega
    go_wp2_with fail
    clear q0 q1 q2 q3 q4 q5 q6 q7 q8
    refine (tracking_any lim mode A B C D coast (fr + 1) A B C D ar L.length cr _).mono ?_
    rintro e w3 ⟨rfl, hx⟩
    have B3 := yz (below_call (yx B1) hx)
    have R3 := yz ((yx R1).kept hx)
    clear hx
    obtain ⟨r0, r1, r2, r3, r4, r5, r6, r7, r8⟩ := bcs9 (yx R3)
    obtain ⟨g0, g1, g2, g3, g4, g5, g6, g7, g8⟩ := bfs9 (yx R3)
    go_wp2_with fail
    clear r0 r1 r2 r3 r4 r5 r6 r7 r8 g0 g1 g2 g3 g4 g5 g6 g7 g8
    rw [yx HO]
    refine bodyPost_ret (v := .agg #[.slice ar L.length cr, .int .i64 lim, .int .i64 1, .int .i64 A, .int .i64 B, .int .i64 C, .int .i64 D, .int .i64 0, .int .i64 (fr + 1)]) ?_ rfl ⟨rfl, ?_⟩
    · refine res_lookedAt _ _ (w.heap.size + 1) _ lim 1 A B C D 0 (fr + 1) rfl ?_
      exact tkAt_set9 (lim0 := 0) (mode0 := 0) (A0 := 0) (B0 := 0) (C0 := 0) (D0 := 0) (coast0 := 0) (fr0 := 0) (u := .slice none 0 0) ⟨(yx R3).cell 0 _ rfl, (yx R3).cell 1 _ rfl, (yx R3).cell 2 _ rfl, (yx R3).cell 3 _ rfl, (yx R3).cell 4 _ rfl, (yx R3).cell 5 _ rfl, (yx R3).cell 6 _ rfl, (yx R3).cell 7 _ rfl, (yx R3).cell 8 _ rfl⟩ _ lim 1 A B C D 0 (fr + 1)
    · iterate 9 (refine belowSet ?_ (show w.heap.size ≤ w.heap.size + 1 by omega) _ _)
      exact yx B3
  have hneg : ¬ (mode ≠ 0 ∧ 2 ≤ cn) := fun h => h2 h.2
  have h2' : ¬ (2 : Int) ≤ (cn : Int) := by omega
  go_wp2_with fail
  clear q0 q1 q2 q3 q4 q5 q6 q7 q8
  refine (yx cT _ (yx B1)).mono ?_
  rintro e w2 ⟨rfl, hx⟩
  have Z := below1 w2 (.cells #[.int .i64 t1, .int .i64 t2, .int .i64 t3, .int .i64 t4, .int .i64 tc] 156)
  have B2 := yz (below_call (below_call (yx B1) hx) Z)
  have A2 := yz (((yx A1).kept hx).kept Z)
  have R2 := yz (((yx R1).kept hx).kept Z)
  have T2 := yz (blk_new w2 [.int .i64 t1, .int .i64 t2, .int .i64 t3, .int .i64 t4, .int .i64 tc] 156)
  clear hx Z
  obtain ⟨q0, q1, q2, q3, q4, q5, q6, q7, q8⟩ := bcs9 (yx A2)
  obtain ⟨s0, s1, s2, s3, s4⟩ := bcs5 (yx T2)
  by_cases h3 : tc = 0
  · have HO := yz (yx hO2 hneg h3)
    clear hO1 hO2 hO3
    subst h3
    go_wp2_with fail
    clear q0 q1 q2 q3 q4 q5 q6 q7 q8 s0 s1 s2 s3 s4
    refine (tracking_any lim _ A B C D coast (fr + 1) t1 t2 t3 t4 ar L.length cr _).mono ?_
    rintro e w3 ⟨rfl, hx⟩
    have B3 := yz (below_call (yx B2) hx)
    have R3 := yz ((yx R2).kept hx)
    clear hx
    obtain ⟨r0, r1, r2, r3, r4, r5, r6, r7, r8⟩ := bcs9 (yx R3)
    obtain ⟨g0, g1, g2, g3, g4, g5, g6, g7, g8⟩ := bfs9 (yx R3)
    go_wp2_with fail
    clear r0 r1 r2 r3 r4 r5 r6 r7 r8 g0 g1 g2 g3 g4 g5 g6 g7 g8
    rw [yx HO]
    refine bodyPost_ret (v := .agg #[.slice ar L.length cr, .int .i64 lim, .int .i64 1, .int .i64 t1, .int .i64 t2, .int .i64 t3, .int .i64 t4, .int .i64 0, .int .i64 (fr + 1)]) ?_ rfl ⟨rfl, ?_⟩
    · refine res_lookedAt _ _ (w.heap.size + 1) _ lim 1 t1 t2 t3 t4 0 (fr + 1) rfl ?_
      exact tkAt_set9 (lim0 := 0) (mode0 := 0) (A0 := 0) (B0 := 0) (C0 := 0) (D0 := 0) (coast0 := 0) (fr0 := 0) (u := .slice none 0 0) ⟨(yx R3).cell 0 _ rfl, (yx R3).cell 1 _ rfl, (yx R3).cell 2 _ rfl, (yx R3).cell 3 _ rfl, (yx R3).cell 4 _ rfl, (yx R3).cell 5 _ rfl, (yx R3).cell 6 _ rfl, (yx R3).cell 7 _ rfl, (yx R3).cell 8 _ rfl⟩ _ lim 1 t1 t2 t3 t4 0 (fr + 1)
    · iterate 9 (refine belowSet ?_ (show w.heap.size ≤ w.heap.size + 1 by omega) _ _)
      exact yx B3
  · have HO := yz (yx hO3 hneg h3)
    clear hO1 hO2 hO3
    go_wp2_with fail
    clear q0 q1 q2 q3 q4 q5 q6 q7 q8 s0 s1 s2 s3 s4
    refine (yx cU _).mono ?_
    rintro e w3 ⟨rfl, hx⟩
    have B3 := yz (below_call (yx B2) hx)
    have R3 := yz ((yx R2).kept hx)
    clear hx
    obtain ⟨r0, r1, r2, r3, r4, r5, r6, r7, r8⟩ := bcs9 (yx R3)
    obtain ⟨g0, g1, g2, g3, g4, g5, g6, g7, g8⟩ := bfs9 (yx R3)
    go_wp2_with fail
    clear r0 r1 r2 r3 r4 r5 r6 r7 r8 g0 g1 g2 g3 g4 g5 g6 g7 g8
    rw [yx HO]
    refine bodyPost_ret (v := .agg #[.slice ar L.length cr, .int .i64 u1, .int .i64 u2, .int .i64 u3, .int .i64 u4, .int .i64 u5, .int .i64 u6, .int .i64 u7, .int .i64 u8]) ?_ rfl ⟨rfl, ?_⟩
    · refine res_lookedAt _ _ (w.heap.size + 1) _ u1 u2 u3 u4 u5 u6 u7 u8 rfl ?_
      exact tkAt_set9 (lim0 := 0) (mode0 := 0) (A0 := 0) (B0 := 0) (C0 := 0) (D0 := 0) (coast0 := 0) (fr0 := 0) (u := .slice none 0 0) ⟨(yx R3).cell 0 _ rfl, (yx R3).cell 1 _ rfl, (yx R3).cell 2 _ rfl, (yx R3).cell 3 _ rfl, (yx R3).cell 4 _ rfl, (yx R3).cell 5 _ rfl, (yx R3).cell 6 _ rfl, (yx R3).cell 7 _ rfl, (yx R3).cell 8 _ rfl⟩ _ u1 u2 u3 u4 u5 u6 u7 u8
    · iterate 9 (refine belowSet ?_ (show w.heap.size ≤ w.heap.size + 1 by omega) _ _)
      exact yx B3
end Go.Proofs.YteoonaanoenjiaaGreatDoor
namespace Go.Proofs.YteoonaanoenjiaaGreatDoor
open Go.RowKit Go.Sort
set_option linter.unusedVariables false
theorem OwnS.row {w : World} {b n : Nat} {L : List St} (h : OwnS w b n L n) : OwnR w (some ⟨b, 0, none⟩) n (some b) := by
  obtain ⟨cur, hc, hn, hs⟩ := h
  refine .inr ⟨b, fun j => match j % 4 with | 0 => (stA L (j / 4)).1 | 1 => (stA L (j / 4)).2.1 | 2 => (stA L (j / 4)).2.2.1 | _ => (stA L (j / 4)).2.2.2, rfl, rfl, cur, hc, fun j hj => ?_⟩
  obtain ⟨h0, h1, h2, h3⟩ := hs (j / 4) (by omega)
  have h4 : j % 4 = 0 ∨ j % 4 = 1 ∨ j % 4 = 2 ∨ j % 4 = 3 := by omega
  rcases h4 with h4 | h4 | h4 | h4
  · dsimp only; rw [h4]; rw [show j / 4 * 4 = j by omega] at h0; exact h0
  · dsimp only; rw [h4]; rw [show j / 4 * 4 + 1 = j by omega] at h1; exact h1
  · dsimp only; rw [h4]; rw [show j / 4 * 4 + 2 = j by omega] at h2; exact h2
  · dsimp only; rw [h4]; rw [show j / 4 * 4 + 3 = j by omega] at h3; exact h3
theorem Copied.grown {w w' : World} {B : Nat} {L : List St} {a : Option Addr} {cap : Nat} {row : Option Nat} (h : Copied w B L a cap) (hg : w.grownBy w' row) (hne : ∀ g, row = some g → g < B) : Copied w' B L a cap := by
  obtain ⟨h1, h2⟩ := h
  refine ⟨h1, ?_⟩
  rcases h2 with h2 | ⟨g, c', cur, e, hb, hh, r⟩
  · exact .inl h2
  · exact .inr ⟨g, c', cur, e, hb, by rw [hg.block g (Array.getElem?_eq_some_iff.1 hh).1 (fun e => by have := hne g e.symm; omega)]; exact hh, r⟩
theorem Stars.grown {w w' : World} {a : Option Addr} {L : List St} {n : Nat} {row : Option Nat} (h : Stars w a L n) (hg : w.grownBy w' row) (hne : ∀ x g, a = some x → row = some g → x.block ≠ g) : Stars w' a L n := by
  rcases h with h | ⟨b, o, rfl, hb, hc⟩
  · exact .inl h
  · refine .inr ⟨b, o, rfl, Nat.lt_of_lt_of_le hb hg.size, fun i hi => ?_⟩
    have e : w'.heap[b]? = w.heap[b]? := hg.block b hb (fun e => hne _ b rfl e.symm rfl)
    obtain ⟨c0, c1, c2, c3⟩ := hc i hi
    exact ⟨(World.cell?_of_block (a := ⟨b, _, none⟩) e).trans c0, (World.cell?_of_block (a := ⟨b, _, none⟩) e).trans c1, (World.cell?_of_block (a := ⟨b, _, none⟩) e).trans c2, (World.cell?_of_block (a := ⟨b, _, none⟩) e).trans c3⟩
theorem Copied.block {w : World} {B : Nat} {L : List St} {a : Option Addr} {cap : Nat} (h : Copied w B L a cap) (x : Addr) (e : a = some x) : B ≤ x.block ∧ x.block < w.heap.size := by
  rcases h.2 with ⟨h1, _⟩ | ⟨g, c', cur, e', hb, hh, r⟩
  · injection h1 with h1; rw [h1] at e; cases e
  · injection e' with e1; rw [e1] at e; cases e; exact ⟨hb, (Array.getElem?_eq_some_iff.1 hh).1⟩
end Go.Proofs.YteoonaanoenjiaaGreatDoor
namespace Go.Proofs.YteoonaanoenjiaaGreatDoor
open Go.RowKit Go.Sort
set_option linter.unusedVariables false
set_option linter.unusedSimpArgs false
def lookT (t : Tk) (S : List D3) : Tk := if 400 < S.length then zeroK else if (trackB t && spotsB S) = true then (if t.fr = 1000000 then zeroK else lookR t S) else zeroK
def lookC (t : Tk) (S : List D3) : Int := if 400 < S.length then 2 else if (trackB t && spotsB S) = true then (if t.fr = 1000000 then 9 else 0) else 1
theorem look_big {t : Tk} {S : List D3} (h : 400 < S.length) : lookT t S = zeroK ∧ lookC t S = 2 := by unfold lookT lookC; rw [if_pos h, if_pos h]; exact ⟨rfl, rfl⟩
theorem look_ill {t : Tk} {S : List D3} (h : ¬ 400 < S.length) (h1 : (trackB t && spotsB S) = false) : lookT t S = zeroK ∧ lookC t S = 1 := by unfold lookT lookC; rw [if_neg h, if_neg h, h1]; exact ⟨rfl, rfl⟩
theorem look_full {t : Tk} {S : List D3} (h : ¬ 400 < S.length) (h1 : trackB t = true) (h2 : spotsB S = true) (h3 : t.fr = 1000000) : lookT t S = zeroK ∧ lookC t S = 9 := by unfold lookT lookC; rw [if_neg h, if_neg h, h1, h2, if_pos h3, if_pos h3]; exact ⟨rfl, rfl⟩
theorem look_yes {t : Tk} {S : List D3} (h : ¬ 400 < S.length) (h1 : trackB t = true) (h2 : spotsB S = true) (h3 : t.fr ≠ 1000000) : lookT t S = lookR t S ∧ lookC t S = 0 := by unfold lookT lookC; rw [if_neg h, if_neg h, h1, h2, if_neg h3, if_neg h3]; exact ⟨rfl, rfl⟩
theorem unseen_L (t : Tk) : (unseenT t).L = t.L := by
  unfold unseenT
  split
  · rfl
  · split <;> rfl
theorem lookR_L (t : Tk) (S : List D3) : (lookR t S).L = t.L := by
  unfold lookR
  split
  · rfl
  · split
    · rfl
    · rw [unseen_L]
theorem look_bounds {t : Tk} (h : trackB t = true) : skyB t.L = true ∧ (t.mode = 0 ∨ t.mode = 1 ∨ t.mode = 2) ∧ (t.mode ≠ 0 → rightT t.A t.B t.C t.D = true) ∧ (0 ≤ t.coast ∧ t.coast ≤ 5) ∧ (0 ≤ t.fr ∧ t.fr ≤ 1000000) := by
  unfold trackB headB at h
  simp only [Bool.and_eq_true] at h
  obtain ⟨⟨⟨hs, hl⟩, hf⟩, hm⟩ := h
  rw [span_iff] at hl hf
  unfold modeB at hm
  split at hm
  · rename_i h0
    simp only [Bool.and_eq_true, decide_eq_true_eq] at hm
    exact ⟨hs, .inl h0, fun h => absurd h0 h, by omega, hf⟩
  · split at hm
    · rename_i h0
      simp only [Bool.and_eq_true, decide_eq_true_eq] at hm
      exact ⟨hs, .inr (.inl h0), fun _ => hm.1, by omega, hf⟩
    · split at hm
      · rename_i h0
        simp only [Bool.and_eq_true, span_iff] at hm
        exact ⟨hs, .inr (.inr h0), fun _ => hm.1, by omega, hf⟩
      · cases hm
theorem blk_set10 {w : World} {b : Nat} {L : List Value} {t : TypeId} (h : Blk w b L t) (hl : L.length = 10) (v : Value) (lim mode A B C D coast fr code : Int) : Blk ((((((((((w.setCell ⟨b, 0, none⟩ v).setCell ⟨b, 1, none⟩ (.int .i64 lim)).setCell ⟨b, 2, none⟩ (.int .i64 mode)).setCell ⟨b, 3, none⟩ (.int .i64 A)).setCell ⟨b, 4, none⟩ (.int .i64 B)).setCell ⟨b, 5, none⟩ (.int .i64 C)).setCell ⟨b, 6, none⟩ (.int .i64 D)).setCell ⟨b, 7, none⟩ (.int .i64 coast)).setCell ⟨b, 8, none⟩ (.int .i64 fr)).setCell ⟨b, 9, none⟩ (.int .i64 code)) b [v, .int .i64 lim, .int .i64 mode, .int .i64 A, .int .i64 B, .int .i64 C, .int .i64 D, .int .i64 coast, .int .i64 fr, .int .i64 code] t := by
  match L, hl with
  | [x0, x1, x2, x3, x4, x5, x6, x7, x8, x9], _ => exact (((((((((h.set 0 _).set 1 _).set 2 _).set 3 _).set 4 _).set 5 _).set 6 _).set 7 _).set 8 _).set 9 _
theorem tkO_blk {w : World} {b : Nat} {t : TypeId} {v : Value} {lim mode A B C D coast fr code : Int} (h : Blk w b [v, .int .i64 lim, .int .i64 mode, .int .i64 A, .int .i64 B, .int .i64 C, .int .i64 D, .int .i64 coast, .int .i64 fr, .int .i64 code] t) : TkO w b v lim mode A B C D coast fr code := ⟨⟨h.cell 0 _ rfl, h.cell 1 _ rfl, h.cell 2 _ rfl, h.cell 3 _ rfl, h.cell 4 _ rfl, h.cell 5 _ rfl, h.cell 6 _ rfl, h.cell 7 _ rfl, h.cell 8 _ rfl⟩, h.cell 9 _ rfl⟩
set_option maxHeartbeats 8000000 in
set_option maxRecDepth 100000 in
theorem implLook_any (L : List St) (S : List D3) (lim mode A B C D coast fr : Int) (ad : Option Addr) (c : Nat) (br : Option Addr) (dr : Nat) (p : Addr) (w : World) (hn : L.length ≤ 1048576) (hn2 : S.length ≤ 1048576) (hS : Stars w ad L L.length) (hD : Dirs w br S S.length) (hb : ∀ y, ad = some y → y.block < w.heap.size) (hB : ∀ y, br = some y → y.block < w.heap.size) (hcap : L.length ≤ c) (hc9 : c ≤ 9223372036854775807) (hcap2 : S.length ≤ dr) (hd9 : dr ≤ 9223372036854775807) (hE : ErrSky p w) :
    Calls Tryz.prog 71 #[.agg #[.slice ad L.length c, .int .i64 lim, .int .i64 mode, .int .i64 A, .int .i64 B, .int .i64 C, .int .i64 D, .int .i64 coast, .int .i64 fr], .slice br S.length dr] w fun e w' => OutT w' w.heap.size (lookT ⟨L, lim, mode, A, B, C, D, coast, fr⟩ S) (lookC ⟨L, lim, mode, A, B, C, D, coast, fr⟩ S) e ∧ Below w.heap.size w w' := by
  have B0 := yz (below2 w (.cells #[.slice ad L.length c, .int .i64 lim, .int .i64 mode, .int .i64 A, .int .i64 B, .int .i64 C, .int .i64 D, .int .i64 coast, .int .i64 fr] 37) (.cells #[.slice none 0 0, .int .i64 0, .int .i64 0, .int .i64 0, .int .i64 0, .int .i64 0, .int .i64 0, .int .i64 0, .int .i64 0, .int .i64 0] 39))
  have A0 := yz ((blk_new w [.slice ad L.length c, .int .i64 lim, .int .i64 mode, .int .i64 A, .int .i64 B, .int .i64 C, .int .i64 D, .int .i64 coast, .int .i64 fr] 37).alloc (.cells #[.slice none 0 0, .int .i64 0, .int .i64 0, .int .i64 0, .int .i64 0, .int .i64 0, .int .i64 0, .int .i64 0, .int .i64 0, .int .i64 0] 39))
  have R0 := yz (by simpa using blk_new (w.alloc (.cells #[.slice ad L.length c, .int .i64 lim, .int .i64 mode, .int .i64 A, .int .i64 B, .int .i64 C, .int .i64 D, .int .i64 coast, .int .i64 fr] 37)) [.slice none 0 0, .int .i64 0, .int .i64 0, .int .i64 0, .int .i64 0, .int .i64 0, .int .i64 0, .int .i64 0, .int .i64 0, .int .i64 0] 39 : Blk ((w.alloc (.cells #[.slice ad L.length c, .int .i64 lim, .int .i64 mode, .int .i64 A, .int .i64 B, .int .i64 C, .int .i64 D, .int .i64 coast, .int .i64 fr] 37)).alloc (.cells #[.slice none 0 0, .int .i64 0, .int .i64 0, .int .i64 0, .int .i64 0, .int .i64 0, .int .i64 0, .int .i64 0, .int .i64 0, .int .i64 0] 39)) (w.heap.size + 1) [.slice none 0 0, .int .i64 0, .int .i64 0, .int .i64 0, .int .i64 0, .int .i64 0, .int .i64 0, .int .i64 0, .int .i64 0, .int .i64 0] 39)
  have S0 := yz (hS.kept (yx B0))
  have D0 := yz (hD.kept (yx B0))
  have E0 := yz (hE.kept (yx B0))
  have hl0 := (yx B0).size
  have hB0 : ∀ y, br = some y → y.block < (w.alloc (.cells #[.slice ad L.length c, .int .i64 lim, .int .i64 mode, .int .i64 A, .int .i64 B, .int .i64 C, .int .i64 D, .int .i64 coast, .int .i64 fr] 37)).heap.size + 1 := fun y e => by have := hB y e; simp; omega
  clear hS hD hE hB0
  by_cases hbig : 400 < S.length
  · have HO := yz (look_big (t := ⟨L, lim, mode, A, B, C, D, coast, fr⟩) hbig)
    have hb' : (400 : Int) < (S.length : Int) := by omega
    clear hbig
    go_enter Tryz.func71, Tryz.ntmps71
    go_wp2
    refine bodyPost_ret (v := .agg #[.slice none 0 0, .int .i64 0, .int .i64 0, .int .i64 0, .int .i64 0, .int .i64 0, .int .i64 0, .int .i64 0, .int .i64 0, .int .i64 2]) (by simp [results, Tryz.results71, go_sem]) rfl ⟨?_, below2 _ _ _⟩
    rw [(yx HO).1, (yx HO).2]
    exact outT_ill _ _ _
  have hb' : ¬ (400 : Int) < (S.length : Int) := by omega
  have cR := yz (implTrack_any L lim mode A B C D coast fr ad c p _ hn hcap hc9 (yx S0) (yx E0))
  go_enter Tryz.func71, Tryz.ntmps71
  go_wp2_with fail
  refine (yx cR).mono ?_
  rintro e w1 ⟨rfl, hx⟩
  have A1 := yz ((yx A0).kept hx)
  have R1 := yz ((yx R0).kept hx)
  have S1 := yz ((yx S0).kept hx)
  have D1 := yz ((yx D0).kept hx)
  have E1 := yz ((yx E0).kept hx)
  have B1 := yz (below_call (yx B0) hx)
  have hl1 := hx.size
  clear hx cR A0 R0 S0 D0 E0 B0
  cases hk : trackB ⟨L, lim, mode, A, B, C, D, coast, fr⟩
  · have HO := yz (look_ill (t := ⟨L, lim, mode, A, B, C, D, coast, fr⟩) (S := S) hbig (by rw [hk]; rfl))
    clear hk
    obtain ⟨r0, r1, r2, r3, r4, r5, r6, r7, r8, r9⟩ := bcs10 (yx R1)
    obtain ⟨g0, g1, g2, g3, g4, g5, g6, g7, g8, g9⟩ := bfs10 (yx R1)
    go_wp2_with fail
    clear r0 r1 r2 r3 r4 r5 r6 r7 r8 r9 g0 g1 g2 g3 g4 g5 g6 g7 g8 g9
    refine bodyPost_ret (v := .agg #[.slice none 0 0, .int .i64 0, .int .i64 0, .int .i64 0, .int .i64 0, .int .i64 0, .int .i64 0, .int .i64 0, .int .i64 0, .int .i64 1]) ?_ rfl ⟨?_, ?_⟩
    · exact res_ilook _ _ (w.heap.size + 1) _ 0 0 0 0 0 0 0 0 1 rfl (tkO_blk (blk_set10 (yx R1) rfl _ 0 0 0 0 0 0 0 0 1))
    · rw [(yx HO).1, (yx HO).2]
      exact outT_ill _ _ _
    · iterate 10 (refine belowSet ?_ (show w.heap.size ≤ w.heap.size + 1 by omega) _ _)
      exact yx B1
  go_wp2_with fail
  refine (spotsRight_any S br dr _ hn2 hcap2 hd9 (yx D1)).mono ?_
  rintro e w2 ⟨rfl, hx⟩
  have A2 := yz ((yx A1).kept hx)
  have R2 := yz ((yx R1).kept hx)
  have S2 := yz ((yx S1).kept hx)
  have D2 := yz ((yx D1).kept hx)
  have E2 := yz ((yx E1).kept hx)
  have B2 := yz (below_call (yx B1) hx)
  have hl2 := hx.size
  clear hx A1 R1 S1 D1 E1 B1
  cases hp : spotsB S
  · have HO := yz (look_ill (t := ⟨L, lim, mode, A, B, C, D, coast, fr⟩) (S := S) hbig (by rw [hp]; simp))
    clear hk hp
    obtain ⟨r0, r1, r2, r3, r4, r5, r6, r7, r8, r9⟩ := bcs10 (yx R2)
    obtain ⟨g0, g1, g2, g3, g4, g5, g6, g7, g8, g9⟩ := bfs10 (yx R2)
    go_wp2_with fail
    clear r0 r1 r2 r3 r4 r5 r6 r7 r8 r9 g0 g1 g2 g3 g4 g5 g6 g7 g8 g9
    refine bodyPost_ret (v := .agg #[.slice none 0 0, .int .i64 0, .int .i64 0, .int .i64 0, .int .i64 0, .int .i64 0, .int .i64 0, .int .i64 0, .int .i64 0, .int .i64 1]) ?_ rfl ⟨?_, ?_⟩
    · exact res_ilook _ _ (w.heap.size + 1) _ 0 0 0 0 0 0 0 0 1 rfl (tkO_blk (blk_set10 (yx R2) rfl _ 0 0 0 0 0 0 0 0 1))
    · rw [(yx HO).1, (yx HO).2]
      exact outT_ill _ _ _
    · iterate 10 (refine belowSet ?_ (show w.heap.size ≤ w.heap.size + 1 by omega) _ _)
      exact yx B2
  by_cases hf : fr = 1000000
  · have HO := yz (look_full (t := ⟨L, lim, mode, A, B, C, D, coast, fr⟩) (S := S) hbig hk hp hf)
    clear hk hp
    obtain ⟨q0, q1, q2, q3, q4, q5, q6, q7, q8⟩ := bcs9 (yx A2)
    obtain ⟨r0, r1, r2, r3, r4, r5, r6, r7, r8, r9⟩ := bcs10 (yx R2)
    obtain ⟨g0, g1, g2, g3, g4, g5, g6, g7, g8, g9⟩ := bfs10 (yx R2)
    go_wp2_with fail
    clear r0 r1 r2 r3 r4 r5 r6 r7 r8 r9 g0 g1 g2 g3 g4 g5 g6 g7 g8 g9
    refine bodyPost_ret (v := .agg #[.slice none 0 0, .int .i64 0, .int .i64 0, .int .i64 0, .int .i64 0, .int .i64 0, .int .i64 0, .int .i64 0, .int .i64 0, .int .i64 9]) ?_ rfl ⟨?_, ?_⟩
    · exact res_ilook _ _ (w.heap.size + 1) _ 0 0 0 0 0 0 0 0 9 rfl (tkO_blk (blk_set10 (yx R2) rfl _ 0 0 0 0 0 0 0 0 9))
    · rw [(yx HO).1, (yx HO).2]
      exact outT_ill _ _ _
    · iterate 10 (refine belowSet ?_ (show w.heap.size ≤ w.heap.size + 1 by omega) _ _)
      exact yx B2
  have HO := yz (look_yes (t := ⟨L, lim, mode, A, B, C, D, coast, fr⟩) (S := S) hbig hk hp hf)
  have HL := yz (lookR_L ⟨L, lim, mode, A, B, C, D, coast, fr⟩ S)
  obtain ⟨hsk, hmd, _, hco, hfr⟩ := look_bounds hk
  dsimp only at hsk hmd hco hfr
  have cW := yz (fun W h => workOf_any L lim mode A B C D coast fr ad c W hn h)
  have cA := yz (fun (W : World) (a : Option Addr) (cap : Nat) h1 h2 h3 h4 h5 h6 h7 => lookedAt_any L S lim mode A B C D coast fr a br cap dr p W hn h1 h2 hn2 hcap2 hd9 h3 h4 h5 h6 h7 hmd hco.1 hco.2 hfr.1 hfr.2)
  obtain ⟨lr, hlr⟩ : ∃ z, lookR ⟨L, lim, mode, A, B, C, D, coast, fr⟩ S = z := ⟨_, rfl⟩
  rw [hlr] at HO HL cA
  obtain ⟨L2, lim2, mode2, A2', B2', C2, D2', coast2, fr2⟩ := lr
  unfold tkV at cA
  dsimp only at cA HL
  clear hk hp hlr hsk hmd hco hfr
  obtain ⟨q0, q1, q2, q3, q4, q5, q6, q7, q8⟩ := bcs9 (yx A2)
  go_wp2_with fail
  clear q0 q1 q2 q3 q4 q5 q6 q7 q8
  refine (yx cW _ (yx S2)).mono ?_
  rintro e w3 ⟨a, cap, rfl, hC, hx⟩
  have C3 := yz (hC.low (B' := w.heap.size + 1 + 1) (by omega))
  have hcm := hC.capMax
  have hab : ∀ y, a = some y → y.block < w3.heap.size := fun y e => (hC.block y e).2
  have R3 := yz ((yx R2).kept hx)
  have D3 := yz ((yx D2).kept hx)
  have E3 := yz ((yx E2).kept hx)
  have B3 := yz (below_call (yx B2) hx)
  have hl3 := hx.size
  clear hx hC A2 R2 S2 D2 E2 B2 cW
  have hm8 : maxLen ≤ 9223372036854775807 := by decide +kernel
  go_wp2_with fail
  refine (yx cA _ a cap hcm.1 (Nat.le_trans hcm.2 hm8) (yx C3).stars (yx D3) hab (fun y e => by have := hB y e; omega) (yx E3)).mono ?_
  rintro e w4 ⟨rfl, hx⟩
  have C4 := yz ((yx C3).kept hx)
  have R4 := yz ((yx R3).kept hx)
  have B4 := yz (below_call (yx B3) hx)
  clear hx C3 R3 B3 D3 E3 cA
  go_wp2_with fail
  refine (told_any lim2 mode2 A2' B2' C2 D2' coast2 fr2 a L.length cap _).mono ?_
  rintro e w5 ⟨rfl, hx⟩
  have C5 := yz ((yx C4).kept hx)
  have R5 := yz ((yx R4).kept hx)
  have B5 := yz (below_call (yx B4) hx)
  clear hx C4 R4 B4
  obtain ⟨r0, r1, r2, r3, r4, r5, r6, r7, r8, r9⟩ := bcs10 (yx R5)
  obtain ⟨g0, g1, g2, g3, g4, g5, g6, g7, g8, g9⟩ := bfs10 (yx R5)
  go_wp2_with fail
  clear r0 r1 r2 r3 r4 r5 r6 r7 r8 r9 g0 g1 g2 g3 g4 g5 g6 g7 g8 g9
  have hL2 : L2 = L := yx HL
  refine bodyPost_ret (v := .agg #[.slice a L.length cap, .int .i64 lim2, .int .i64 mode2, .int .i64 A2', .int .i64 B2', .int .i64 C2, .int .i64 D2', .int .i64 coast2, .int .i64 fr2, .int .i64 0]) ?_ rfl ⟨?_, ?_⟩
  · exact res_ilook _ _ (w.heap.size + 1) _ lim2 mode2 A2' B2' C2 D2' coast2 fr2 0 rfl (tkO_blk (blk_set10 (yx R5) rfl _ lim2 mode2 A2' B2' C2 D2' coast2 fr2 0))
  · rw [(yx HO).1, (yx HO).2]
    subst hL2
    refine ⟨a, cap, rfl, ?_⟩
    refine Copied.low (B := w.heap.size + 1 + 1) ?_ (by omega)
    iterate 10 (refine Copied.far ?_ (Nat.lt_succ_self (w.heap.size + 1)) _ _)
    exact yx C5
  · iterate 10 (refine belowSet ?_ (show w.heap.size ≤ w.heap.size + 1 by omega) _ _)
    exact yx B5
end Go.Proofs.YteoonaanoenjiaaGreatDoor
