/- Several texts in one: LkF, LkG, SkyW. -/
import Derived.Deep.RegionHeld
import Derived.Deep.DeepCutAuto
import Derived.Test.YtjdehbpgdplolaaGreatDoorRows
import Derived.Deep.Slices
import Derived.Deep.Strs
import Derived.Stop.LaidErr
import Derived.LaidHandle
import Derived.LaidMore
import Derived.ProofKit
import Derived.Test.YtjdehbpgdplolaaGreatDoorQLookOwn23
import Derived.Test.YtjdehbpgdplolaaGreatDoorQLookOwn22
import Derived.Test.YtjdehbpgdplolaaGreatDoorQLookOwn9
import Derived.Test.YtjdehbpgdplolaaGreatDoorQLookOwn4
namespace Go.Proofs.YtjdehbpgdplolaaGreatDoor
open Go.RowKit Go.Sort
set_option linter.unusedVariables false
set_option linter.unusedSimpArgs false

set_option maxHeartbeats 8000000 in
set_option maxRecDepth 100000 in
theorem specLook_any (L : List St) (S : List D3) (lim mode A B C D coast fr : Int) (b o c : Nat) (br : Option Addr) (dr : Nat) (w : World) (hn : L.length ≤ 1048576) (hn2 : S.length ≤ 1048576) (hS : Stars w (some ⟨b, o, none⟩) L L.length) (hD : Dirs w br S S.length) (hb : b < w.heap.size) (hB : ∀ y, br = some y → y.block < w.heap.size) (hdr : S.length ≤ dr) (hd9 : dr ≤ 9223372036854775807) :
    Calls Tryz.prog 6 #[.agg #[.slice (some ⟨b, o, none⟩) L.length c, .int .i64 lim, .int .i64 mode, .int .i64 A, .int .i64 B, .int .i64 C, .int .i64 D, .int .i64 coast, .int .i64 fr], .slice br S.length dr] w fun e w' => OutT w' w.heap.size (lookT ⟨L, lim, mode, A, B, C, D, coast, fr⟩ S) (lookC ⟨L, lim, mode, A, B, C, D, coast, fr⟩ S) e ∧ Below w.heap.size w w' := by
  have B0 := hide (below2 w (.cells #[.slice (some ⟨b, o, none⟩) L.length c, .int .i64 lim, .int .i64 mode, .int .i64 A, .int .i64 B, .int .i64 C, .int .i64 D, .int .i64 coast, .int .i64 fr] 33) (.cells #[.slice none 0 0, .int .i64 0, .int .i64 0, .int .i64 0, .int .i64 0, .int .i64 0, .int .i64 0, .int .i64 0, .int .i64 0, .int .i64 0] 35))
  have A0 := hide ((blk_new w [.slice (some ⟨b, o, none⟩) L.length c, .int .i64 lim, .int .i64 mode, .int .i64 A, .int .i64 B, .int .i64 C, .int .i64 D, .int .i64 coast, .int .i64 fr] 33).alloc (.cells #[.slice none 0 0, .int .i64 0, .int .i64 0, .int .i64 0, .int .i64 0, .int .i64 0, .int .i64 0, .int .i64 0, .int .i64 0, .int .i64 0] 35))
  have R0 := hide (by simpa using blk_new (w.alloc (.cells #[.slice (some ⟨b, o, none⟩) L.length c, .int .i64 lim, .int .i64 mode, .int .i64 A, .int .i64 B, .int .i64 C, .int .i64 D, .int .i64 coast, .int .i64 fr] 33)) [.slice none 0 0, .int .i64 0, .int .i64 0, .int .i64 0, .int .i64 0, .int .i64 0, .int .i64 0, .int .i64 0, .int .i64 0, .int .i64 0] 35 : Blk ((w.alloc (.cells #[.slice (some ⟨b, o, none⟩) L.length c, .int .i64 lim, .int .i64 mode, .int .i64 A, .int .i64 B, .int .i64 C, .int .i64 D, .int .i64 coast, .int .i64 fr] 33)).alloc (.cells #[.slice none 0 0, .int .i64 0, .int .i64 0, .int .i64 0, .int .i64 0, .int .i64 0, .int .i64 0, .int .i64 0, .int .i64 0, .int .i64 0] 35)) (w.heap.size + 1) [.slice none 0 0, .int .i64 0, .int .i64 0, .int .i64 0, .int .i64 0, .int .i64 0, .int .i64 0, .int .i64 0, .int .i64 0, .int .i64 0] 35)
  have S0 := hide (hS.kept (unhide B0))
  have D0 := hide (hD.kept (unhide B0))
  have hl0 : w.heap.size + 1 + 1 ≤ ((w.alloc (.cells #[.slice (some ⟨b, o, none⟩) L.length c, .int .i64 lim, .int .i64 mode, .int .i64 A, .int .i64 B, .int .i64 C, .int .i64 D, .int .i64 coast, .int .i64 fr] 33)).alloc (.cells #[.slice none 0 0, .int .i64 0, .int .i64 0, .int .i64 0, .int .i64 0, .int .i64 0, .int .i64 0, .int .i64 0, .int .i64 0, .int .i64 0] 35)).heap.size := by simp
  clear hS hD
  by_cases hbig : 400 < S.length
  · have HO := hide (look_big (t := ⟨L, lim, mode, A, B, C, D, coast, fr⟩) hbig)
    have hb' : (400 : Int) < (S.length : Int) := by omega
    clear hbig
    go_enter Tryz.func6, Tryz.ntmps6
    go_wp2_with fail
    refine (l07Ill_any 2 _).mono ?_
    rintro e wz ⟨rfl, hx⟩
    have Rz := hide ((unhide R0).kept hx)
    have Bz := hide (below_call (unhide B0) hx)
    clear hx
    have r0 := (unhide Rz).cell 0 _ rfl
    have r1 := (unhide Rz).cell 1 _ rfl
    have r2 := (unhide Rz).cell 2 _ rfl
    have r3 := (unhide Rz).cell 3 _ rfl
    have r4 := (unhide Rz).cell 4 _ rfl
    have r5 := (unhide Rz).cell 5 _ rfl
    have r6 := (unhide Rz).cell 6 _ rfl
    have r7 := (unhide Rz).cell 7 _ rfl
    have r8 := (unhide Rz).cell 8 _ rfl
    have r9 := (unhide Rz).cell 9 _ rfl
    have g0 := (unhide Rz).free 0
    have g1 := (unhide Rz).free 1
    have g2 := (unhide Rz).free 2
    have g3 := (unhide Rz).free 3
    have g4 := (unhide Rz).free 4
    have g5 := (unhide Rz).free 5
    have g6 := (unhide Rz).free 6
    have g7 := (unhide Rz).free 7
    have g8 := (unhide Rz).free 8
    have g9 := (unhide Rz).free 9
    go_wp2_with fail
    clear r0 r1 r2 r3 r4 r5 r6 r7 r8 r9 g0 g1 g2 g3 g4 g5 g6 g7 g8 g9
    refine bodyPost_ret (v := .agg #[.slice none 0 0, .int .i64 0, .int .i64 0, .int .i64 0, .int .i64 0, .int .i64 0, .int .i64 0, .int .i64 0, .int .i64 0, .int .i64 2]) ?_ rfl ⟨?_, ?_⟩
    · exact res_slook _ _ (w.heap.size + 1) _ 0 0 0 0 0 0 0 0 2 rfl (tkO_blk (blk_set10 (unhide Rz) rfl _ 0 0 0 0 0 0 0 0 2))
    · rw [(unhide HO).1, (unhide HO).2]
      exact outT_ill _ _ _
    · iterate 10 (refine belowSet ?_ (show w.heap.size ≤ w.heap.size + 1 by omega) _ _)
      exact unhide Bz
  have hb' : ¬ (400 : Int) < (S.length : Int) := by omega
  have cR := hide (specTrack_any L lim mode A B C D coast fr (some ⟨b, o, none⟩) c _ hn (unhide S0))
  go_enter Tryz.func6, Tryz.ntmps6
  go_wp2_with fail
  refine (unhide cR).mono ?_
  rintro e w1 ⟨rfl, hx⟩
  have A1 := hide ((unhide A0).kept hx)
  have R1 := hide ((unhide R0).kept hx)
  have S1 := hide ((unhide S0).kept hx)
  have D1 := hide ((unhide D0).kept hx)
  have B1 := hide (below_call (unhide B0) hx)
  have hl1 := hx.size
  clear hx cR A0 R0 S0 D0 B0
  cases hk : trackB ⟨L, lim, mode, A, B, C, D, coast, fr⟩
  · have HO := hide (look_ill (t := ⟨L, lim, mode, A, B, C, D, coast, fr⟩) (S := S) hbig (by rw [hk]; rfl))
    clear hk
    go_wp2_with fail
    refine (l07Ill_any 1 _).mono ?_
    rintro e wz ⟨rfl, hx⟩
    have Rz := hide ((unhide R1).kept hx)
    have Bz := hide (below_call (unhide B1) hx)
    clear hx
    have r0 := (unhide Rz).cell 0 _ rfl
    have r1 := (unhide Rz).cell 1 _ rfl
    have r2 := (unhide Rz).cell 2 _ rfl
    have r3 := (unhide Rz).cell 3 _ rfl
    have r4 := (unhide Rz).cell 4 _ rfl
    have r5 := (unhide Rz).cell 5 _ rfl
    have r6 := (unhide Rz).cell 6 _ rfl
    have r7 := (unhide Rz).cell 7 _ rfl
    have r8 := (unhide Rz).cell 8 _ rfl
    have r9 := (unhide Rz).cell 9 _ rfl
    have g0 := (unhide Rz).free 0
    have g1 := (unhide Rz).free 1
    have g2 := (unhide Rz).free 2
    have g3 := (unhide Rz).free 3
    have g4 := (unhide Rz).free 4
    have g5 := (unhide Rz).free 5
    have g6 := (unhide Rz).free 6
    have g7 := (unhide Rz).free 7
    have g8 := (unhide Rz).free 8
    have g9 := (unhide Rz).free 9
    go_wp2_with fail
    clear r0 r1 r2 r3 r4 r5 r6 r7 r8 r9 g0 g1 g2 g3 g4 g5 g6 g7 g8 g9
    refine bodyPost_ret (v := .agg #[.slice none 0 0, .int .i64 0, .int .i64 0, .int .i64 0, .int .i64 0, .int .i64 0, .int .i64 0, .int .i64 0, .int .i64 0, .int .i64 1]) ?_ rfl ⟨?_, ?_⟩
    · exact res_slook _ _ (w.heap.size + 1) _ 0 0 0 0 0 0 0 0 1 rfl (tkO_blk (blk_set10 (unhide Rz) rfl _ 0 0 0 0 0 0 0 0 1))
    · rw [(unhide HO).1, (unhide HO).2]
      exact outT_ill _ _ _
    · iterate 10 (refine belowSet ?_ (show w.heap.size ≤ w.heap.size + 1 by omega) _ _)
      exact unhide Bz
  go_wp2_with fail
  refine (specSpotsRight_any S br dr _ hn2 (unhide D1)).mono ?_
  rintro e w2 ⟨rfl, hx⟩
  have A2 := hide ((unhide A1).kept hx)
  have R2 := hide ((unhide R1).kept hx)
  have S2 := hide ((unhide S1).kept hx)
  have D2 := hide ((unhide D1).kept hx)
  have B2 := hide (below_call (unhide B1) hx)
  have hl2 := hx.size
  clear hx A1 R1 S1 D1 B1
  cases hp : spotsB S
  · have HO := hide (look_ill (t := ⟨L, lim, mode, A, B, C, D, coast, fr⟩) (S := S) hbig (by rw [hp]; simp))
    clear hk hp
    go_wp2_with fail
    refine (l07Ill_any 1 _).mono ?_
    rintro e wz ⟨rfl, hx⟩
    have Rz := hide ((unhide R2).kept hx)
    have Bz := hide (below_call (unhide B2) hx)
    clear hx
    have r0 := (unhide Rz).cell 0 _ rfl
    have r1 := (unhide Rz).cell 1 _ rfl
    have r2 := (unhide Rz).cell 2 _ rfl
    have r3 := (unhide Rz).cell 3 _ rfl
    have r4 := (unhide Rz).cell 4 _ rfl
    have r5 := (unhide Rz).cell 5 _ rfl
    have r6 := (unhide Rz).cell 6 _ rfl
    have r7 := (unhide Rz).cell 7 _ rfl
    have r8 := (unhide Rz).cell 8 _ rfl
    have r9 := (unhide Rz).cell 9 _ rfl
    have g0 := (unhide Rz).free 0
    have g1 := (unhide Rz).free 1
    have g2 := (unhide Rz).free 2
    have g3 := (unhide Rz).free 3
    have g4 := (unhide Rz).free 4
    have g5 := (unhide Rz).free 5
    have g6 := (unhide Rz).free 6
    have g7 := (unhide Rz).free 7
    have g8 := (unhide Rz).free 8
    have g9 := (unhide Rz).free 9
    go_wp2_with fail
    clear r0 r1 r2 r3 r4 r5 r6 r7 r8 r9 g0 g1 g2 g3 g4 g5 g6 g7 g8 g9
    refine bodyPost_ret (v := .agg #[.slice none 0 0, .int .i64 0, .int .i64 0, .int .i64 0, .int .i64 0, .int .i64 0, .int .i64 0, .int .i64 0, .int .i64 0, .int .i64 1]) ?_ rfl ⟨?_, ?_⟩
    · exact res_slook _ _ (w.heap.size + 1) _ 0 0 0 0 0 0 0 0 1 rfl (tkO_blk (blk_set10 (unhide Rz) rfl _ 0 0 0 0 0 0 0 0 1))
    · rw [(unhide HO).1, (unhide HO).2]
      exact outT_ill _ _ _
    · iterate 10 (refine belowSet ?_ (show w.heap.size ≤ w.heap.size + 1 by omega) _ _)
      exact unhide Bz
  obtain ⟨hsk, hmd, hrt, hco, hfr⟩ := look_bounds hk
  dsimp only at hsk hmd hrt hco hfr
  by_cases hf : fr = 1000000
  · have HO := hide (look_full (t := ⟨L, lim, mode, A, B, C, D, coast, fr⟩) (S := S) hbig hk hp hf)
    have hf' : (1000000 : Int) ≤ fr := by omega
    clear hk hp hsk hmd hrt hco hfr
    have q0 := (unhide A2).cell 0 _ rfl
    have q1 := (unhide A2).cell 1 _ rfl
    have q2 := (unhide A2).cell 2 _ rfl
    have q3 := (unhide A2).cell 3 _ rfl
    have q4 := (unhide A2).cell 4 _ rfl
    have q5 := (unhide A2).cell 5 _ rfl
    have q6 := (unhide A2).cell 6 _ rfl
    have q7 := (unhide A2).cell 7 _ rfl
    have q8 := (unhide A2).cell 8 _ rfl
    go_wp2_with fail
    clear q0 q1 q2 q3 q4 q5 q6 q7 q8
    refine (l07Ill_any 9 _).mono ?_
    rintro e wz ⟨rfl, hx⟩
    have Rz := hide ((unhide R2).kept hx)
    have Bz := hide (below_call (unhide B2) hx)
    clear hx
    have r0 := (unhide Rz).cell 0 _ rfl
    have r1 := (unhide Rz).cell 1 _ rfl
    have r2 := (unhide Rz).cell 2 _ rfl
    have r3 := (unhide Rz).cell 3 _ rfl
    have r4 := (unhide Rz).cell 4 _ rfl
    have r5 := (unhide Rz).cell 5 _ rfl
    have r6 := (unhide Rz).cell 6 _ rfl
    have r7 := (unhide Rz).cell 7 _ rfl
    have r8 := (unhide Rz).cell 8 _ rfl
    have r9 := (unhide Rz).cell 9 _ rfl
    have g0 := (unhide Rz).free 0
    have g1 := (unhide Rz).free 1
    have g2 := (unhide Rz).free 2
    have g3 := (unhide Rz).free 3
    have g4 := (unhide Rz).free 4
    have g5 := (unhide Rz).free 5
    have g6 := (unhide Rz).free 6
    have g7 := (unhide Rz).free 7
    have g8 := (unhide Rz).free 8
    have g9 := (unhide Rz).free 9
    go_wp2_with fail
    clear r0 r1 r2 r3 r4 r5 r6 r7 r8 r9 g0 g1 g2 g3 g4 g5 g6 g7 g8 g9
    refine bodyPost_ret (v := .agg #[.slice none 0 0, .int .i64 0, .int .i64 0, .int .i64 0, .int .i64 0, .int .i64 0, .int .i64 0, .int .i64 0, .int .i64 0, .int .i64 9]) ?_ rfl ⟨?_, ?_⟩
    · exact res_slook _ _ (w.heap.size + 1) _ 0 0 0 0 0 0 0 0 9 rfl (tkO_blk (blk_set10 (unhide Rz) rfl _ 0 0 0 0 0 0 0 0 9))
    · rw [(unhide HO).1, (unhide HO).2]
      exact outT_ill _ _ _
    · iterate 10 (refine belowSet ?_ (show w.heap.size ≤ w.heap.size + 1 by omega) _ _)
      exact unhide Bz
  have HO := hide (look_yes (t := ⟨L, lim, mode, A, B, C, D, coast, fr⟩) (S := S) hbig hk hp hf)
  have hf' : ¬ (1000000 : Int) ≤ fr := by omega
  have cK := hide (l07Look_any L S lim mode A B C D coast fr b o c br dr w2 hn hdr hd9 (unhide S2) (unhide D2) (by omega) (fun y e => by have := hB y e; omega) hsk hp hmd hrt hco.1 hco.2 hfr.1 hfr.2)
  obtain ⟨lr, hlr⟩ : ∃ z, lookR ⟨L, lim, mode, A, B, C, D, coast, fr⟩ S = z := ⟨_, rfl⟩
  have HL := hide (lookR_L ⟨L, lim, mode, A, B, C, D, coast, fr⟩ S)
  rw [hlr] at HO HL cK
  obtain ⟨L2, lim2, mode2, A2', B2', C2, D2', coast2, fr2⟩ := lr
  dsimp only at HL
  clear hk hp hlr hsk hmd hrt hco hfr hf
  have q0 := (unhide A2).cell 0 _ rfl
  have q1 := (unhide A2).cell 1 _ rfl
  have q2 := (unhide A2).cell 2 _ rfl
  have q3 := (unhide A2).cell 3 _ rfl
  have q4 := (unhide A2).cell 4 _ rfl
  have q5 := (unhide A2).cell 5 _ rfl
  have q6 := (unhide A2).cell 6 _ rfl
  have q7 := (unhide A2).cell 7 _ rfl
  have q8 := (unhide A2).cell 8 _ rfl
  go_wp2_with fail
  clear q0 q1 q2 q3 q4 q5 q6 q7 q8
  refine (unhide cK).mono ?_
  rintro e w3 ⟨⟨a, cap, he, hC⟩, hx⟩
  dsimp only at he hC
  have hL3 : L2 = L := unhide HL
  subst hL3
  subst he
  have C5 := hide (hC.low (B' := w.heap.size + 1 + 1) (by omega))
  have R5 := hide ((unhide R2).kept hx)
  have B5 := hide (below_call (unhide B2) hx)
  clear hx hC R2 B2 A2 S2 D2 cK
  have r0 := (unhide R5).cell 0 _ rfl
  have r1 := (unhide R5).cell 1 _ rfl
  have r2 := (unhide R5).cell 2 _ rfl
  have r3 := (unhide R5).cell 3 _ rfl
  have r4 := (unhide R5).cell 4 _ rfl
  have r5 := (unhide R5).cell 5 _ rfl
  have r6 := (unhide R5).cell 6 _ rfl
  have r7 := (unhide R5).cell 7 _ rfl
  have r8 := (unhide R5).cell 8 _ rfl
  have r9 := (unhide R5).cell 9 _ rfl
  have g0 := (unhide R5).free 0
  have g1 := (unhide R5).free 1
  have g2 := (unhide R5).free 2
  have g3 := (unhide R5).free 3
  have g4 := (unhide R5).free 4
  have g5 := (unhide R5).free 5
  have g6 := (unhide R5).free 6
  have g7 := (unhide R5).free 7
  have g8 := (unhide R5).free 8
  have g9 := (unhide R5).free 9
  go_wp2_with fail
  clear r0 r1 r2 r3 r4 r5 r6 r7 r8 r9 g0 g1 g2 g3 g4 g5 g6 g7 g8 g9
  refine bodyPost_ret (v := .agg #[.slice a L2.length cap, .int .i64 lim2, .int .i64 mode2, .int .i64 A2', .int .i64 B2', .int .i64 C2, .int .i64 D2', .int .i64 coast2, .int .i64 fr2, .int .i64 0]) ?_ rfl ⟨?_, ?_⟩
  · exact res_slook _ _ (w.heap.size + 1) _ lim2 mode2 A2' B2' C2 D2' coast2 fr2 0 rfl (tkO_blk (blk_set10 (unhide R5) rfl _ lim2 mode2 A2' B2' C2 D2' coast2 fr2 0))
  · rw [(unhide HO).1, (unhide HO).2]
    refine ⟨a, cap, rfl, ?_⟩
    refine Copied.low (B := w.heap.size + 1 + 1) ?_ (by omega)
    iterate 10 (refine Copied.far ?_ (Nat.lt_succ_self (w.heap.size + 1)) _ _)
    exact unhide C5
  · iterate 10 (refine belowSet ?_ (show w.heap.size ≤ w.heap.size + 1 by omega) _ _)
    exact unhide B5
end Go.Proofs.YtjdehbpgdplolaaGreatDoor

namespace Go.Proofs.YtjdehbpgdplolaaGreatDoor
open Go.RowKit Go.Sort
set_option linter.unusedVariables false

theorem OwnD.grownD {w w' : World} {b n k : Nat} {L : List D3} {row : Option Nat} (h : OwnD w b n L k) (hg : w.grownBy w' row) (hne : some b ≠ row) : OwnD w' b n L k := by
  have hl := h.lt
  obtain ⟨cur, hc, r⟩ := h
  exact ⟨cur, by rw [hg.block b hl hne]; exact hc, r⟩
theorem lookT_len (t : Tk) (S : List D3) (h : t.L.length ≤ 1048576) : (lookT t S).L.length ≤ 1048576 := by
  unfold lookT
  split
  · exact Nat.zero_le _
  · split
    · split
      · exact Nat.zero_le _
      · rw [lookR_L]; exact h
    · exact Nat.zero_le _

set_option maxHeartbeats 16000000 in
set_option maxRecDepth 100000 in
theorem lawLook (L : List St) (S : List D3) (lim mode A B C D coast fr : Int) (a br : Option Addr) (c dr : Nat) (p : Addr) (w : World) (hn : L.length ≤ 1048576) (hm : (S.length : Int) ≤ 1048576 - (L.length : Int)) (hS : Stars w a L L.length) (hD : Dirs w br S S.length) (hE : ErrSky p w) :
    Calls Tryz.prog 3 #[.agg #[.slice a L.length c, .int .i64 lim, .int .i64 mode, .int .i64 A, .int .i64 B, .int .i64 C, .int .i64 D, .int .i64 coast, .int .i64 fr], .slice br S.length dr] w fun e w' => e = .returned (.bool true) ∧ Below w.heap.size w w' := by
  have HS := hide hS
  have HE := hide hE
  have HD := hide hD
  have hm2 : S.length ≤ 1048576 := by omega
  clear hS hE hD
  have cD := hide (fun W hW => toVecS_any S S.length br dr W hm2 hW)
  have cT := hide (fun W hW => toTracker_any L lim mode A B C D coast fr a c W hn hW)
  obtain ⟨t2, code, hn2, cS, cR⟩ : ∃ (t2 : Tk) (code : Int), t2.L.length ≤ 1048576 ∧ Hid (∀ (W : World) (b d : Nat), b < W.heap.size → d < W.heap.size → Stars W (some ⟨b, 0, none⟩) L L.length → Dirs W (some ⟨d, 0, none⟩) S S.length → Calls Tryz.prog 6 #[.agg #[.slice (some ⟨b, 0, none⟩) L.length L.length, .int .i64 lim, .int .i64 mode, .int .i64 A, .int .i64 B, .int .i64 C, .int .i64 D, .int .i64 coast, .int .i64 fr], .slice (some ⟨d, 0, none⟩) S.length S.length] W fun e w' => OutT w' W.heap.size t2 code e ∧ Below W.heap.size W w')
    ∧ Hid (∀ (W : World) (b d : Nat), b < W.heap.size → d < W.heap.size → Stars W (some ⟨b, 0, none⟩) L L.length → Dirs W (some ⟨d, 0, none⟩) S S.length → ErrSky p W → Calls Tryz.prog 9 #[.agg #[.slice (some ⟨b, 0, none⟩) L.length L.length, .int .i64 lim, .int .i64 mode, .int .i64 A, .int .i64 B, .int .i64 C, .int .i64 D, .int .i64 coast, .int .i64 fr], .slice (some ⟨d, 0, none⟩) S.length S.length] W fun e w' => OutT w' W.heap.size t2 code e ∧ Below W.heap.size W w') :=
    ⟨lookT ⟨L, lim, mode, A, B, C, D, coast, fr⟩ S, lookC ⟨L, lim, mode, A, B, C, D, coast, fr⟩ S, lookT_len _ _ hn, hide (fun W b d g1 g2 hW hV => specLook_any L S lim mode A B C D coast fr b 0 L.length (some ⟨d, 0, none⟩) S.length W hn hm2 hW hV g1 (fun y e => by rw [← Option.some.inj e]; exact g2) (Nat.le_refl _) (by omega)), hide (fun W b d g1 g2 hW hV hE => implLook_any L S lim mode A B C D coast fr b 0 L.length (some ⟨d, 0, none⟩) S.length p W hn hm2 hW hV g1 (fun y e => by rw [← Option.some.inj e]; exact g2) (Nat.le_refl _) (by omega) (Nat.le_refl _) (by omega) hE)⟩
  obtain ⟨L2, lim2, mode2, A2, B2, C2, D2, coast2, fr2⟩ := t2
  unfold OutT at cS cR
  dsimp only at hn2 cS cR
  generalize S.length = m at *
  generalize L.length = n at *
  have h0 : ¬ (1048576 : Int) - (n : Int) < 0 := by omega
  have h1 : ¬ (1048576 : Int) - (n : Int) - (m : Int) < 0 := by omega
  have B0 := hide (below1 w (.cells #[.slice a n c, .int .i64 lim, .int .i64 mode, .int .i64 A, .int .i64 B, .int .i64 C, .int .i64 D, .int .i64 coast, .int .i64 fr] 26))
  have T0 := hide (tkAt_new w (.slice a n c) lim mode A B C D coast fr 26)
  go_enter Tryz.func3, Tryz.ntmps3
  go_wp2_with fail
  refine (szTracker_any a n c lim mode A B C D coast fr _ hn).mono ?_
  rintro e w1 ⟨rfl, hx⟩
  have B1 := hide (below_call (unhide B0) hx)
  have T1 := hide ((unhide T0).kept hx)
  clear hx B0 T0
  go_wp2_with fail
  refine (szVecS_any br m dr (1048576 - (n : Int)) _ (by omega) (by omega) (by omega)).mono ?_
  rintro e w1b ⟨rfl, hw⟩
  rw [hw]
  clear hw w1b
  obtain ⟨q0, q1, q2, q3, q4, q5, q6, q7, q8⟩ := unhide T1
  go_wp2_with fail
  clear q0 q1 q2 q3 q4 q5 q6 q7 q8
  refine (unhide cT _ ((unhide HS).kept (unhide B1))).mono ?_
  rintro e w2 ⟨b2, rfl, ho, hb2, hx⟩
  have O2 := hide ho
  have Y2 := hide (below_call (unhide B1) hx)
  have T2 := hide ((unhide T1).kept hx)
  clear hx ho hb2 B1 T1
  go_wp2_with fail
  refine (unhide cD _ ((unhide HD).kept (unhide Y2))).mono ?_
  rintro e w2b ⟨rfl, ho, hx⟩
  have V2 := hide ho
  replace O2 := hide ((unhide O2).kept hx)
  replace Y2 := hide (below_call (unhide Y2) hx)
  replace T2 := hide ((unhide T2).kept hx)
  clear ho hx
  go_wp2_with fail
  refine (unhide cS _ b2 _ (unhide O2).lt (unhide V2).lt (unhide O2).stars (unhide V2).dirs).mono ?_
  rintro e w3 ⟨⟨a3, cap3, rfl, hC⟩, hx⟩
  have Z3 := below1 w3 (.cells #[.slice a3 L2.length cap3, .int .i64 lim2, .int .i64 mode2, .int .i64 A2, .int .i64 B2, .int .i64 C2, .int .i64 D2, .int .i64 coast2, .int .i64 fr2, .int .i64 code] 35)
  have C3 := hide (hC.kept Z3)
  have B3 := hide (below_call (below_call (unhide Y2) hx) Z3)
  have T3 := hide (((unhide T2).kept hx).kept Z3)
  have W3 := hide (tkO_new w3 (.slice a3 L2.length cap3) lim2 mode2 A2 B2 C2 D2 coast2 fr2 code 35)
  clear hx hC Y2 T2 O2 V2 Z3
  obtain ⟨q0, q1, q2, q3, q4, q5, q6, q7, q8⟩ := unhide T3
  go_wp2_with fail
  clear q0 q1 q2 q3 q4 q5 q6 q7 q8
  generalize hV3 : w3.alloc (.cells #[.slice a3 L2.length cap3, .int .i64 lim2, .int .i64 mode2, .int .i64 A2, .int .i64 B2, .int .i64 C2, .int .i64 D2, .int .i64 coast2, .int .i64 fr2, .int .i64 code] 35) = V3 at *
  generalize hb3 : w3.heap.size = wb at *
  clear hV3 hb3
  refine (unhide cT _ ((unhide HS).kept (unhide B3))).mono ?_
  rintro e w4 ⟨b4, rfl, ho, hb4, hx⟩
  have Z4 := below1 w4 (.cells #[.slice (some ⟨b4, 0, none⟩) n n, .int .i64 lim, .int .i64 mode, .int .i64 A, .int .i64 B, .int .i64 C, .int .i64 D, .int .i64 coast, .int .i64 fr] 33)
  have O4 := hide (ho.kept Z4)
  have B4 := hide (below_call (below_call (unhide B3) hx) Z4)
  have T4 := hide (((unhide T3).kept hx).kept Z4)
  have X4 := hide (tkAt_new w4 (.slice (some ⟨b4, 0, none⟩) n n) lim mode A B C D coast fr 33)
  have W4 := hide (((unhide W3).kept hx).kept Z4)
  have C4 := hide (((unhide C3).stars.kept hx).kept Z4)
  have hr3 : ∀ x, a3 = some x → x.block < b4 := fun x e => by have := ((unhide C3).block x e).2; omega
  have hwb : wb < b4 := by have := (unhide W3).lt; omega
  have hbl : b4 < w4.heap.size := ho.lt
  have hwl : w.heap.size < b4 := by have := (unhide T3).lt; omega
  clear hx ho hb4 B3 T3 Z4 W3 C3
  obtain ⟨q0, q1, q2, q3, q4, q5, q6, q7, q8⟩ := unhide X4
  go_wp2_with fail
  clear q0 q1 q2 q3 q4 q5 q6 q7 q8
  generalize hV4 : w4.alloc (.cells #[.slice (some ⟨b4, 0, none⟩) n n, .int .i64 lim, .int .i64 mode, .int .i64 A, .int .i64 B, .int .i64 C, .int .i64 D, .int .i64 coast, .int .i64 fr] 33) = V4z at *
  generalize hx4 : w4.heap.size = xb at *
  clear hV4 hx4
  have hxz : xb < V4z.heap.size := (unhide X4).lt
  have hbz : b4 < V4z.heap.size := (unhide O4).lt
  refine (unhide cD _ ((unhide HD).kept (unhide B4))).mono ?_
  rintro e V4 ⟨rfl, ho, hx⟩
  have P4 := hide ho
  replace O4 := hide ((unhide O4).kept hx)
  replace B4 := hide (below_call (unhide B4) hx)
  replace T4 := hide ((unhide T4).kept hx)
  replace X4 := hide ((unhide X4).kept hx)
  replace W4 := hide ((unhide W4).kept hx)
  replace C4 := hide ((unhide C4).kept hx)
  have hyb : V4z.heap.size < V4.heap.size := ho.lt
  generalize V4z.heap.size = yb at *
  clear ho hx V4z
  obtain ⟨q0, q1, q2, q3, q4, q5, q6, q7, q8⟩ := unhide X4
  go_wp2_with fail
  clear q0 q1 q2 q3 q4 q5 q6 q7 q8
  refine (unhide cR _ b4 yb (unhide O4).lt (unhide P4).lt (unhide O4).stars (unhide P4).dirs ((unhide HE).kept (unhide B4))).mono ?_
  rintro e w5 ⟨⟨a5, cap5, rfl, hC⟩, hx⟩
  have Z5 := below1 w5 (.cells #[.slice a5 L2.length cap5, .int .i64 lim2, .int .i64 mode2, .int .i64 A2, .int .i64 B2, .int .i64 C2, .int .i64 D2, .int .i64 coast2, .int .i64 fr2, .int .i64 code] 35)
  have C5 := hide (hC.kept Z5)
  have O5 := hide (((unhide O4).kept hx).kept Z5)
  have P5 := hide (((unhide P4).kept hx).kept Z5)
  have B5 := hide (below_call (below_call (unhide B4) hx) Z5)
  have T5 := hide (((unhide T4).kept hx).kept Z5)
  have X5 := hide (((unhide X4).kept hx).kept Z5)
  have W5 := hide (((unhide W4).kept hx).kept Z5)
  have D5 := hide (((unhide C4).kept hx).kept Z5)
  have G5 := hide (tkO_new w5 (.slice a5 L2.length cap5) lim2 mode2 A2 B2 C2 D2 coast2 fr2 code 35)
  have hxb : xb < V4.heap.size := (unhide X4).lt
  have hb4V : b4 < V4.heap.size := (unhide O4).lt
  have hgb : V4.heap.size ≤ w5.heap.size := hx.size
  have hr5 : ∀ x, a5 = some x → V4.heap.size ≤ x.block ∧ x.block < w5.heap.size := fun x e => hC.block x e
  clear hx hC O4 B4 T4 X4 W4 C4 P4 Z5
  obtain ⟨⟨g0, g1, g2, g3, g4, g5, g6, g7, g8⟩, g9⟩ := unhide G5
  obtain ⟨⟨q0, q1, q2, q3, q4, q5, q6, q7, q8⟩, q9⟩ := unhide W5
  go_wp2_with fail
  clear g0 g1 g2 g3 g4 g5 g6 g7 g8 g9 q0 q1 q2 q3 q4 q5 q6 q7 q8 q9
  generalize hV5 : w5.alloc (.cells #[.slice a5 L2.length cap5, .int .i64 lim2, .int .i64 mode2, .int .i64 A2, .int .i64 B2, .int .i64 C2, .int .i64 D2, .int .i64 coast2, .int .i64 fr2, .int .i64 code] 35) = V5 at *
  generalize hg5 : w5.heap.size = gb at *
  clear hV5 hg5
  refine (eqTrackerOut_same L2 L2.length lim2 mode2 A2 B2 C2 D2 coast2 fr2 code a5 a3 cap5 cap3 _ hn2 (unhide C5).stars (unhide D5)).mono ?_
  rintro e w6 ⟨rfl, hx⟩
  have C6 := hide ((unhide C5).kept hx)
  have O6 := hide ((unhide O5).kept hx)
  have P6 := hide ((unhide P5).kept hx)
  have B6 := hide (below_call (unhide B5) hx)
  have T6 := hide ((unhide T5).kept hx)
  have X6 := hide ((unhide X5).kept hx)
  have W6 := hide ((unhide W5).kept hx)
  have D6 := hide ((unhide D5).kept hx)
  have G6 := hide ((unhide G5).kept hx)
  clear hx C5 O5 B5 T5 X5 W5 D5 G5 P5
  go_wp2_with fail
  go_region_held (fun w' => ((w'.cell? ⟨w.heap.size, 0, none⟩ = some (.slice a n c) ∧ w'.cell? ⟨w.heap.size, 1, none⟩ = some (.int .i64 lim) ∧ w'.cell? ⟨w.heap.size, 2, none⟩ = some (.int .i64 mode) ∧ w'.cell? ⟨w.heap.size, 3, none⟩ = some (.int .i64 A) ∧ w'.cell? ⟨w.heap.size, 4, none⟩ = some (.int .i64 B) ∧ w'.cell? ⟨w.heap.size, 5, none⟩ = some (.int .i64 C) ∧ w'.cell? ⟨w.heap.size, 6, none⟩ = some (.int .i64 D) ∧ w'.cell? ⟨w.heap.size, 7, none⟩ = some (.int .i64 coast) ∧ w'.cell? ⟨w.heap.size, 8, none⟩ = some (.int .i64 fr)) ∧ (w'.cell? ⟨xb, 0, none⟩ = some (.slice (some ⟨b4, 0, none⟩) n n) ∧ w'.cell? ⟨xb, 1, none⟩ = some (.int .i64 lim) ∧ w'.cell? ⟨xb, 2, none⟩ = some (.int .i64 mode) ∧ w'.cell? ⟨xb, 3, none⟩ = some (.int .i64 A) ∧ w'.cell? ⟨xb, 4, none⟩ = some (.int .i64 B) ∧ w'.cell? ⟨xb, 5, none⟩ = some (.int .i64 C) ∧ w'.cell? ⟨xb, 6, none⟩ = some (.int .i64 D) ∧ w'.cell? ⟨xb, 7, none⟩ = some (.int .i64 coast) ∧ w'.cell? ⟨xb, 8, none⟩ = some (.int .i64 fr))) ∧ Below w6.heap.size w6 w') (first | (with_reducible exact holdTT (unhide T6) (unhide X6) (Below.refl _ _).drew) | (with_reducible exact holdTT (unhide T6) (unhide X6) (by assumption))) (first | (go_at_call 7; (with_reducible refine (unhide cT _ ((unhide HS).kept (below_call (unhide B6) (And.right (by assumption))))).mono ?_); rintro e wn ⟨b7, rfl, ho, hb7, hx⟩; have OT := hide ho; clear ho hb7; have hw : Below w6.heap.size w6 wn := (by first | (with_reducible exact stepTkZ hx (by assumption)) | (with_reducible exact stepTkD hx (by assumption)) | (with_reducible exact (Below.refl _ _).drew.trans (hx.mono (Nat.le_refl _))))) | (go_at_call 11; (with_reducible refine (eqTracker_same L n lim mode A B C D coast fr _ _ _ _ _ hn ((unhide O6).stars.kept (And.right (by assumption))) (unhide OT).stars).mono ?_); rintro e wn ⟨rfl, hx⟩; have hw : Below w6.heap.size w6 wn := (by first | (with_reducible exact stepTkZ hx (by assumption)) | (with_reducible exact stepTkD hx (by assumption)))))
  have C7 := hide ((unhide C6).kept hw)
  have O7 := hide ((unhide O6).kept hw)
  have P7 := hide ((unhide P6).kept hw)
  have B7 := hide (below_call (unhide B6) hw)
  have T7 := hide ((unhide T6).kept hw)
  have X7 := hide ((unhide X6).kept hw)
  have W7 := hide ((unhide W6).kept hw)
  have D7 := hide ((unhide D6).kept hw)
  have G7 := hide ((unhide G6).kept hw)
  clear OT C6 O6 B6 T6 X6 W6 D6 G6 P6
  go_wp2_with fail
  refine (unhide cD _ ((unhide HD).kept (unhide B7))).mono ?_
  rintro e w7b ⟨rfl, ho, hx⟩
  have Q7 := hide ho
  clear ho
  replace C7 := hide ((unhide C7).kept hx)
  replace O7 := hide ((unhide O7).kept hx)
  replace P7 := hide ((unhide P7).kept hx)
  replace B7 := hide (below_call (unhide B7) hx)
  replace T7 := hide ((unhide T7).kept hx)
  replace X7 := hide ((unhide X7).kept hx)
  replace W7 := hide ((unhide W7).kept hx)
  replace D7 := hide ((unhide D7).kept hx)
  replace G7 := hide ((unhide G7).kept hx)
  clear hx
  go_wp2_with fail
  refine (eqVecS_same S m (some ⟨yb, 0, none⟩) _ m m _ hm2 (unhide P7).dirs (unhide Q7).dirs).mono ?_
  rintro e w7c ⟨rfl, hx⟩
  replace C7 := hide ((unhide C7).kept hx)
  replace O7 := hide ((unhide O7).kept hx)
  replace P7 := hide ((unhide P7).kept hx)
  replace B7 := hide (below_call (unhide B7) hx)
  replace T7 := hide ((unhide T7).kept hx)
  replace X7 := hide ((unhide X7).kept hx)
  replace W7 := hide ((unhide W7).kept hx)
  replace D7 := hide ((unhide D7).kept hx)
  replace G7 := hide ((unhide G7).kept hx)
  clear hx Q7
  obtain ⟨q0, q1, q2, q3, q4, q5, q6, q7, q8⟩ := unhide X7
  go_wp2_with fail
  clear q0 q1 q2 q3 q4 q5 q6 q7 q8
  refine (markTracker_any n lim mode A B C D coast fr (some ⟨b4, 0, none⟩) n (some b4) _ hn (unhide O7).row).mono ?_
  rintro e w8 ⟨rfl, hm, hg⟩
  have B8 := hide (belowR (unhide B7) hg (unhide B7).size (fun g e => by cases e; omega))
  have T8 := hide ((unhide T7).grown hg (fun e => by have := Option.some.inj e; omega))
  have W8 := hide ((unhide W7).grown hg (fun e => by have := Option.some.inj e; omega))
  have D8 := hide ((unhide D7).grown hg (fun x g e e' => by have := hr3 x e; cases e'; omega))
  have C8 := hide ((unhide C7).grown hg (fun g e => by cases e; exact hb4V))
  have G8 := hide ((unhide G7).grown hg (fun e => by have := Option.some.inj e; omega))
  have P8 := hide ((unhide P7).grownD hg (fun e => by have := Option.some.inj e; omega))
  clear hm hg B7 T7 W7 D7 C7 G7 O7 X7 P7
  go_wp2_with fail
  obtain ⟨fv, hfv⟩ := rowOfDirs (unhide P8)
  refine (markVecS_from m m yb (1 + (n : Int) * 4) fv _ hm2 (by omega) (by omega) hfv).mono ?_
  rintro e w8b ⟨rfl, hg⟩
  replace B8 := hide (belowR (unhide B8) hg (unhide B8).size (fun g e => by cases e; omega))
  replace T8 := hide ((unhide T8).grown hg (fun e => by have := Option.some.inj e; omega))
  replace W8 := hide ((unhide W8).grown hg (fun e => by have := Option.some.inj e; omega))
  replace D8 := hide ((unhide D8).grown hg (fun x g e e' => by have := hr3 x e; cases e'; omega))
  replace C8 := hide ((unhide C8).grown hg (fun g e => by cases e; exact hyb))
  replace G8 := hide ((unhide G8).grown hg (fun e => by have := Option.some.inj e; omega))
  clear hg hfv P8
  obtain ⟨K1, hK1⟩ : ∃ K1 : Int, 1 + (n : Int) * 4 + (m : Int) * 3 = K1 := ⟨_, rfl⟩
  have hk0 : ¬ K1 < 0 := by omega
  rw [hK1]
  clear hK1
  obtain ⟨⟨g0, g1, g2, g3, g4, g5, g6, g7, g8⟩, g9⟩ := unhide G8
  obtain ⟨⟨q0, q1, q2, q3, q4, q5, q6, q7, q8⟩, q9⟩ := unhide W8
  go_wp2_with fail
  clear g0 g1 g2 g3 g4 g5 g6 g7 g8 g9 q0 q1 q2 q3 q4 q5 q6 q7 q8 q9
  refine (eqTrackerOut_same L2 L2.length lim2 mode2 A2 B2 C2 D2 coast2 fr2 code a5 a3 cap5 cap3 _ hn2 (unhide C8).stars (unhide D8)).mono ?_
  rintro e w9 ⟨rfl, hx⟩
  have C9 := hide ((unhide C8).kept hx)
  have B9 := hide (below_call (unhide B8) hx)
  have T9 := hide ((unhide T8).kept hx)
  have W9 := hide ((unhide W8).kept hx)
  have D9 := hide ((unhide D8).kept hx)
  have G9 := hide ((unhide G8).kept hx)
  clear hx C8 B8 T8 W8 D8 G8
  obtain ⟨⟨g0, g1, g2, g3, g4, g5, g6, g7, g8⟩, g9⟩ := unhide G9
  go_wp2_with fail
  clear g0 g1 g2 g3 g4 g5 g6 g7 g8 g9
  obtain ⟨row, hrow, hrb⟩ := (unhide C9).row
  have hrow2 : ∀ g, row = some g → V4.heap.size ≤ g ∧ g < gb := fun g e => by
    rcases hrow with ⟨_, h⟩ | ⟨g', f, h1, h2, _⟩
    · rw [h] at e; cases e
    · rw [h2] at e
      obtain rfl := Option.some.inj e
      exact hr5 _ h1
  refine (markTrackerOut_any L2.length lim2 mode2 A2 B2 C2 D2 coast2 fr2 code a5 cap5 row _ hn2 hrow).mono ?_
  rintro e wa ⟨rfl, hm, hg⟩
  have Ba := hide (belowR (unhide B9) hg (unhide B9).size (fun g e => by have := hrow2 g e; omega))
  have Ta := hide ((unhide T9).grown hg (fun e => by have := hrow2 _ e.symm; omega))
  have Wa := hide ((unhide W9).grown hg (fun e => by have := hrow2 _ e.symm; omega))
  have Da := hide ((unhide D9).grown hg (fun x g e e' => by have := hr3 x e; have := hrow2 g e'; omega))
  have Ga := hide ((unhide G9).grown hg (fun e => by have := hrow2 _ e.symm; omega))
  have Ma := hide hm
  clear hm hg B9 T9 W9 D9 C9 G9 hrow
  obtain ⟨K2, hK2⟩ : ∃ K2 : Int, 1 + (L2.length : Int) * 4 = K2 := ⟨_, rfl⟩
  have hk2 : ¬ K2 < 0 := by omega
  have cH : Hid (∀ W : World, Mkd W a5 L2.length row → Calls Tryz.prog 16 #[.agg #[.slice a5 L2.length cap5, .int .i64 lim2, .int .i64 mode2, .int .i64 A2, .int .i64 B2, .int .i64 C2, .int .i64 D2, .int .i64 coast2, .int .i64 fr2, .int .i64 code], .int .i64 1] W fun e w' => e = .returned (.int .i64 K2) ∧ Below W.heap.size W w') := hide (fun W h => by rw [← hK2]; exact heldTrackerOut_any L2.length lim2 mode2 A2 B2 C2 D2 coast2 fr2 code a5 cap5 row W hn2 h)
  rw [hK2]
  clear hK2
  obtain ⟨⟨g0, g1, g2, g3, g4, g5, g6, g7, g8⟩, g9⟩ := unhide Ga
  go_wp2_with fail
  clear g0 g1 g2 g3 g4 g5 g6 g7 g8 g9
  refine (unhide cH _ (unhide Ma)).mono ?_
  rintro e wbx ⟨rfl, hx⟩
  have Bb := hide (below_call (unhide Ba) hx)
  have Tb := hide ((unhide Ta).kept hx)
  have Wb := hide ((unhide Wa).kept hx)
  have Db := hide ((unhide Da).kept hx)
  have Gb := hide ((unhide Ga).kept hx)
  have Mb := hide ((unhide Ma).kept hx)
  clear hx Ba Ta Wa Da Ga Ma
  obtain ⟨q0, q1, q2, q3, q4, q5, q6, q7, q8⟩ := unhide Tb
  go_wp2_with fail
  clear q0 q1 q2 q3 q4 q5 q6 q7 q8
  refine (unhide cT _ ((unhide HS).kept (unhide Bb))).mono ?_
  rintro e wc ⟨bc, rfl, ho, hbc, hx⟩
  have Oc := hide ho
  have Bc := hide (below_call (unhide Bb) hx)
  have Wc := hide ((unhide Wb).kept hx)
  have Dc := hide ((unhide Db).kept hx)
  have Gc := hide ((unhide Gb).kept hx)
  have Mc := hide ((unhide Mb).kept hx)
  clear hx ho hbc Bb Tb Wb Db Gb Mb
  go_wp2_with fail
  refine (unhide cD _ ((unhide HD).kept (unhide Bc))).mono ?_
  rintro e wcb ⟨rfl, ho, hx⟩
  have Vc := hide ho
  replace Oc := hide ((unhide Oc).kept hx)
  replace Bc := hide (below_call (unhide Bc) hx)
  replace Wc := hide ((unhide Wc).kept hx)
  replace Dc := hide ((unhide Dc).kept hx)
  replace Gc := hide ((unhide Gc).kept hx)
  replace Mc := hide ((unhide Mc).kept hx)
  clear ho hx
  go_wp2_with fail
  refine (unhide cR _ bc _ (unhide Oc).lt (unhide Vc).lt (unhide Oc).stars (unhide Vc).dirs ((unhide HE).kept (unhide Bc))).mono ?_
  rintro e wd ⟨⟨ad, capd, rfl, hC⟩, hx⟩
  have Zd := below1 wd (.cells #[.slice ad L2.length capd, .int .i64 lim2, .int .i64 mode2, .int .i64 A2, .int .i64 B2, .int .i64 C2, .int .i64 D2, .int .i64 coast2, .int .i64 fr2, .int .i64 code] 35)
  have Cd := hide (hC.stars.kept Zd)
  have Bd := hide (below_call (below_call (unhide Bc) hx) Zd)
  have Wd := hide (((unhide Wc).kept hx).kept Zd)
  have Dd := hide (((unhide Dc).kept hx).kept Zd)
  have Gd := hide (((unhide Gc).kept hx).kept Zd)
  have Md := hide (((unhide Mc).kept hx).kept Zd)
  have Hd := tkO_new wd (.slice ad L2.length capd) lim2 mode2 A2 B2 C2 D2 coast2 fr2 code 35
  clear hx hC Zd Bc Wc Dc Gc Mc Oc
  obtain ⟨⟨g0, g1, g2, g3, g4, g5, g6, g7, g8⟩, g9⟩ := Hd
  obtain ⟨⟨q0, q1, q2, q3, q4, q5, q6, q7, q8⟩, q9⟩ := unhide Wd
  go_wp2_with fail
  clear g0 g1 g2 g3 g4 g5 g6 g7 g8 g9 q0 q1 q2 q3 q4 q5 q6 q7 q8 q9
  generalize hVd : wd.alloc (.cells #[.slice ad L2.length capd, .int .i64 lim2, .int .i64 mode2, .int .i64 A2, .int .i64 B2, .int .i64 C2, .int .i64 D2, .int .i64 coast2, .int .i64 fr2, .int .i64 code] 35) = Vd at *
  clear hVd
  refine (eqTrackerOut_same L2 L2.length lim2 mode2 A2 B2 C2 D2 coast2 fr2 code ad a3 capd cap3 _ hn2 (unhide Cd) (unhide Dd)).mono ?_
  rintro e we ⟨rfl, hx⟩
  have Be := hide (below_call (unhide Bd) hx)
  have Ge := hide ((unhide Gd).kept hx)
  have Me := hide ((unhide Md).kept hx)
  clear hx Bd Wd Dd Gd Md Cd
  obtain ⟨⟨g0, g1, g2, g3, g4, g5, g6, g7, g8⟩, g9⟩ := unhide Ge
  go_wp2_with fail
  clear g0 g1 g2 g3 g4 g5 g6 g7 g8 g9
  refine (unhide cH _ (unhide Me)).mono ?_
  rintro e wf ⟨rfl, hx⟩
  have Bf := hide (below_call (unhide Be) hx)
  clear hx
  go_wp2_with fail
  go_ret
  exact ⟨rfl, unhide Bf⟩

set_option maxRecDepth 100000 in
theorem lawLook_big (n m : Nat) (lim mode A B C D coast fr : Int) (a br : Option Addr) (c dr : Nat) (w : World) (hn : n ≤ 9223372036854775807) (hm : m ≤ 9223372036854775807) (h : 1048576 < n ∨ (n ≤ 1048576 ∧ (1048576 : Int) - (n : Int) < (m : Int))) :
    Calls Tryz.prog 3 #[.agg #[.slice a n c, .int .i64 lim, .int .i64 mode, .int .i64 A, .int .i64 B, .int .i64 C, .int .i64 D, .int .i64 coast, .int .i64 fr], .slice br m dr] w fun e w' => e = .returned (.bool true) ∧ Below w.heap.size w w' := by
  have B0 := hide (below1 w (.cells #[.slice a n c, .int .i64 lim, .int .i64 mode, .int .i64 A, .int .i64 B, .int .i64 C, .int .i64 D, .int .i64 coast, .int .i64 fr] 26))
  rcases h with h | ⟨h, h2⟩
  · go_enter Tryz.func3, Tryz.ntmps3
    go_wp2_with fail
    refine (szTracker_big a n c lim mode A B C D coast fr _ h hn).mono ?_
    rintro e w1 ⟨rfl, hx⟩
    have B1 := hide (below_call (unhide B0) hx)
    clear hx
    go_wp2_with fail
    go_ret
    exact ⟨rfl, unhide B1⟩
  · have h0 : ¬ (1048576 : Int) - (n : Int) < 0 := by omega
    go_enter Tryz.func3, Tryz.ntmps3
    go_wp2_with fail
    refine (szTracker_any a n c lim mode A B C D coast fr _ h).mono ?_
    rintro e w1 ⟨rfl, hx⟩
    have B1 := hide (below_call (unhide B0) hx)
    clear hx
    go_wp2_with fail
    refine (szVecS_big br m dr (1048576 - (n : Int)) _ (by omega) (by omega) (by omega) hm).mono ?_
    rintro e w2 ⟨rfl, hw⟩
    rw [hw]
    clear hw w2
    go_wp2_with fail
    go_ret
    exact ⟨rfl, unhide B1⟩
theorem lawLook_all (L : List St) (a : Option Addr) (len cap : Nat) (lim mode A B C D coast fr : Int) (hl : L.length = len) (hm : len ≤ maxLen) (S : List D3) (br : Option Addr) (len2 cap2 : Nat) (hl2 : S.length = len2) (hm2 : len2 ≤ maxLen) (w : World) (hS : Stars w a L len) (hD : Dirs w br S len2) (hE : ∃ p, ErrSky p w) :
    Calls Tryz.prog 3 #[.agg #[.slice a len cap, .int .i64 lim, .int .i64 mode, .int .i64 A, .int .i64 B, .int .i64 C, .int .i64 D, .int .i64 coast, .int .i64 fr], .slice br len2 cap2] w fun e w' => e = .returned (.bool true) ∧ Below w.heap.size w w' := by
  obtain ⟨p, hp⟩ := hE
  subst hl hl2
  have hm' : maxLen ≤ 9223372036854775807 := by decide +kernel
  by_cases h : L.length ≤ 1048576 ∧ (S.length : Int) ≤ 1048576 - (L.length : Int)
  · exact lawLook L S lim mode A B C D coast fr a br cap cap2 p w h.1 h.2 hS hD hp
  · exact lawLook_big L.length S.length lim mode A B C D coast fr a br cap cap2 w (by omega) (by omega) (by omega)
end Go.Proofs.YtjdehbpgdplolaaGreatDoor

namespace Go.Proofs.YtjdehbpgdplolaaGreatDoor
open Go.RowKit Go.Deep Go.ChangeShapes
set_option linter.unusedVariables false

def laidSky : List (String × DataW Unit) := [("loop.example/g00577/impl.errNoSky", Rows.laid_loop_example_g00577_impl_errNoSky)]
theorem star_ptr : "*" ++ "errors.errorString" = "*errors.errorString" := by decide
theorem rowE (u : TypeId) (h : Tryz.prog.typeName? 3 u = some "*errors.errorString") : u = 170 :=
  typeName_ptr_named (nm := "errors.errorString") (by rw [star_ptr]; kernel_rfl) (by kernel_rfl) (by decide) u (by rw [star_ptr]; exact h)
theorem errNamed : Tryz.prog.globalNamed "loop.example/g00577/impl.errNoSky" = some 0 := by kernel_rfl
theorem errType : (Tryz.prog.globals[0]?).map (·.type) = some 111 := by kernel_rfl
theorem errVar_of_laid {W : World} (h : laidMetH Tryz.prog laidSky W) : ∃ p, W.var? Tryz.prog "loop.example/g00577/impl.errNoSky" = some #[.iface 170 (.pointer (some p))] := by
  have h' : laidMet Tryz.prog laidSky W := h
  obtain ⟨a, s, hv, _⟩ := laid_sentinel h' errNamed errType Tryz.underlying111 rowE Tryz.underlying170 Tryz.underlying196 rfl rfl Tryz.underlying9 (by kernel_rfl) (by kernel_rfl)
  exact ⟨a, hv⟩
theorem errSky_of_var {W : World} {p : Addr} (hv : W.var? Tryz.prog "loop.example/g00577/impl.errNoSky" = some #[.iface 170 (.pointer (some p))]) : ErrSky p W := by
  unfold ErrSky
  rw [World.var?_cell errNamed hv 0]
  rfl
theorem err_read {H : Type} (enc : TypeId × Value → H) {W : World} {p : Addr} (hv : W.var? Tryz.prog "loop.example/g00577/impl.errNoSky" = some #[.iface 170 (.pointer (some p))]) (sp : Nat → Bool) :
    DataW.TrodVars enc Tryz.prog W sp ["loop.example/g00577/impl.errNoSky"] [tok enc (.iface 170 (.pointer (some p)))] [.cell 0 0] :=
  vars_read1 enc errNamed errType Tryz.underlying111 hv trivial sp
theorem door_met (os : Os) (args : Array Value) : laidMetH Tryz.prog laidSky ((World.doorLaid Tryz.prog 400 os).forCall (fun _ _ => 0) ⟨#[], args, []⟩).memory :=
  laidMet_of_run' 8 (by kernel_rfl) (by kernel_rfl)

theorem stA_range (n : Nat) (f : Nat → St) {i : Nat} (h : i < n) : stA ((List.range n).map f) i = f i := by
  unfold stA
  rw [List.getD_eq_getElem?_getD, List.getElem?_map, List.getElem?_range h]
  rfl
theorem cellsS : Tryz.prog.cellsOf 88 = 4 := by kernel_rfl
theorem cellsV3 : Tryz.prog.cellsOf 56 = 3 := by kernel_rfl
theorem cellsI : Tryz.prog.cellsOf 2 = 1 := by kernel_rfl
theorem spot_none {w : World} {x : Addr} {v : Value} (h : w.cell? x = some v) : x.spot = none := by
  cases hs : x.spot with
  | none => rfl
  | some k =>
    exfalso
    unfold World.cell? at h
    rw [hs] at h
    revert h
    split <;> simp
set_option maxRecDepth 100000 in
theorem open_stars {H : Type} {enc : TypeId × Value → H} {w : World} {fuel : Nat} {a : Option Addr} {len cap : Nat} {x : DataW H × List MemPlace}
    (h : DataW.trod enc Tryz.prog w 0 (fun _ => true) true fuel 22 [.slice a len cap] = some x) : ∃ L : List St, L.length = len ∧ Stars w a L len ∧ len ≤ maxLen := by
  rcases open_slice Tryz.underlying22 h with ⟨hcs, _⟩ | ⟨a', l, c, m, n, D, Pl, hcs, _, hl, hm, hmm, _, hel⟩
  · simp at hcs
    obtain ⟨rfl, rfl, rfl⟩ := hcs
    exact ⟨[], rfl, .inl rfl, Nat.zero_le _⟩
  · simp at hcs
    obtain ⟨rfl, rfl, rfl⟩ := hcs
    have hlm : len ≤ m := by rw [hmm]; simp; exact hl
    have each : ∀ i, i < len → ∃ s : St, w.cell? (a'.add (i * 4)) = some (.int .i64 s.1) ∧ w.cell? (a'.add (i * 4 + 1)) = some (.int .i64 s.2.1) ∧ w.cell? (a'.add (i * 4 + 2)) = some (.int .i64 s.2.2.1) ∧ w.cell? (a'.add (i * 4 + 3)) = some (.int .i64 s.2.2.2) := by
      intro i hi
      obtain ⟨cs, h1, h2⟩ := hel i (by omega)
      rw [cellsS] at h1
      obtain ⟨_, hlen, hcell⟩ := World.cells?_some h1
      obtain ⟨y0, y1, n1, _, _, g0, g1⟩ := trod_struct2 Tryz.underlying88 h2
      match cs, hlen with
      | [v0, v1, v2, v3], _ =>
        have g0' : DataW.trod enc Tryz.prog w 0 (fun _ => true) true n1 2 (([v0, v1, v2, v3].drop 0).take (Tryz.prog.cellsOf 2)) = some y0 := g0
        have g1' : DataW.trod enc Tryz.prog w 0 (fun _ => true) true n1 56 (([v0, v1, v2, v3].drop 1).take (Tryz.prog.cellsOf 56)) = some y1 := g1
        rw [cellsI] at g0'
        rw [cellsV3] at g1'
        obtain ⟨z0, z1, z2, n2, _, _, k0, k1, k2⟩ := trod_struct3 Tryz.underlying56 g1'
        have k0' : DataW.trod enc Tryz.prog w 0 (fun _ => true) true n2 2 (([v1, v2, v3].drop 0).take (Tryz.prog.cellsOf 2)) = some z0 := k0
        have k1' : DataW.trod enc Tryz.prog w 0 (fun _ => true) true n2 2 (([v1, v2, v3].drop 1).take (Tryz.prog.cellsOf 2)) = some z1 := k1
        have k2' : DataW.trod enc Tryz.prog w 0 (fun _ => true) true n2 2 (([v1, v2, v3].drop 2).take (Tryz.prog.cellsOf 2)) = some z2 := k2
        rw [cellsI] at k0' k1' k2'
        obtain ⟨i0, e0, _, _⟩ := DataW.trod_int Tryz.underlying2 g0'
        obtain ⟨i1, e1, _, _⟩ := DataW.trod_int Tryz.underlying2 k0'
        obtain ⟨i2, e2, _, _⟩ := DataW.trod_int Tryz.underlying2 k1'
        obtain ⟨i3, e3, _, _⟩ := DataW.trod_int Tryz.underlying2 k2'
        simp at e0 e1 e2 e3
        subst e0 e1 e2 e3
        have c0 := hcell 0 (by omega)
        have c1 := hcell 1 (by omega)
        have c2 := hcell 2 (by omega)
        have c3 := hcell 3 (by omega)
        rw [add_add] at c0 c1 c2 c3
        exact ⟨(i0, i1, i2, i3), by simpa using c0, by simpa using c1, by simpa using c2, by simpa using c3⟩
    obtain ⟨f, hf⟩ := choose_lt each
    refine ⟨(List.range len).map f, by simp, ?_, by omega⟩
    rcases Nat.eq_zero_or_pos len with h0 | h0
    · exact .inl h0
    · have hs : (a'.add (0 * 4)).spot = none := spot_none (hf 0 h0).1
      have hb : (a'.add (0 * 4)).block < w.heap.size := World.block_lt_of_cell? w _ (hf 0 h0).1
      obtain ⟨bx, ox, sx⟩ := a'
      have hs' : sx = none := by simpa [Addr.add] using hs
      subst hs'
      have hA : ∀ j, (⟨bx, ox, none⟩ : Addr).add j = ⟨bx, ox + j, none⟩ := fun j => by unfold Addr.add; split <;> simp_all
      refine .inr ⟨bx, ox, rfl, by simpa [Addr.add] using hb, fun i hi => ?_⟩
      obtain ⟨c0, c1, c2, c3⟩ := hf i hi
      rw [hA] at c0 c1 c2 c3
      rw [stA_range len f hi]
      exact ⟨c0, by rw [Nat.add_assoc]; exact c1, by rw [Nat.add_assoc]; exact c2, by rw [Nat.add_assoc]; exact c3⟩
end Go.Proofs.YtjdehbpgdplolaaGreatDoor
