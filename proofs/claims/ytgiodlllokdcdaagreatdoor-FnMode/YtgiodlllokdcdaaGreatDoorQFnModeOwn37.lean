/- Several texts in one: LkD. -/
import Derived.Test.YtgiodlllokdcdaaGreatDoorQFnModeOwn35
import Derived.Test.YtgiodlllokdcdaaGreatDoorQFnModeOwn36
namespace Go.Proofs.YtgiodlllokdcdaaGreatDoor
set_option linter.unusedVariables false
set_option linter.unusedSimpArgs false
set_option maxRecDepth 100000
set_option maxHeartbeats 8000000
section
open Go.RowKit Go.Sort
def bd (t : Tk) (S : List D3) : Tk := if 400 < S.length then ez else if (aG t && aN S) = true then (if t.fr = 1000000 then ez else bS t S) else ez
def dP (t : Tk) (S : List D3) : Int := if 400 < S.length then 2 else if (aG t && aN S) = true then (if t.fr = 1000000 then 9 else 0) else 1
theorem pR {t : Tk} {S : List D3} (h : 400 < S.length) : bd t S = ez ∧ dP t S = 2 := by unfold bd dP; rw [if_pos h, if_pos h]; exact ⟨rfl, rfl⟩
theorem jt {t : Tk} {S : List D3} (h : ¬ 400 < S.length) (h1 : (aG t && aN S) = false) : bd t S = ez ∧ dP t S = 1 := by unfold bd dP; rw [if_neg h, if_neg h, h1]; exact ⟨rfl, rfl⟩
theorem nD {t : Tk} {S : List D3} (h : ¬ 400 < S.length) (h1 : aG t = true) (h2 : aN S = true) (h3 : t.fr = 1000000) : bd t S = ez ∧ dP t S = 9 := by unfold bd dP; rw [if_neg h, if_neg h, h1, h2, if_pos h3, if_pos h3]; exact ⟨rfl, rfl⟩
theorem jv {t : Tk} {S : List D3} (h : ¬ 400 < S.length) (h1 : aG t = true) (h2 : aN S = true) (h3 : t.fr ≠ 1000000) : bd t S = bS t S ∧ dP t S = 0 := by unfold bd dP; rw [if_neg h, if_neg h, h1, h2, if_neg h3, if_neg h3]; exact ⟨rfl, rfl⟩
theorem mE (t : Tk) : (aQ t).L = t.L := by
 unfold aQ
 split
 ·rfl
 ·split <;> rfl
theorem oH (t : Tk) (S : List D3) : (bS t S).L = t.L := by
 unfold bS
 split
 ·rfl
 ·split
  ·rfl
  ·rw [mE]
theorem kD {t : Tk} (h : aG t = true) : aT t.L = true ∧ (t.mode = 0 ∨ t.mode = 1 ∨ t.mode = 2) ∧ (t.mode ≠ 0 → aC t.A t.B t.C t.D = true) ∧ (0 ≤ t.coast ∧ t.coast ≤ 5) ∧ (0 ≤ t.fr ∧ t.fr ≤ 1000000) := by
 unfold aG jp at h
 simp only [Bool.and_eq_true] at h
 obtain ⟨⟨⟨hs, hl⟩, hf⟩, hm⟩ := h
 rw [gV] at hl hf
 unfold gA at hm
 split at hm
 ·rename_i h0
  simp only [Bool.and_eq_true, decide_eq_true_eq] at hm
  exact ⟨hs, .inl h0, fun h => absurd h0 h, by omega, hf⟩
 ·split at hm
  ·rename_i h0
   simp only [Bool.and_eq_true, decide_eq_true_eq] at hm
   exact ⟨hs, .inr (.inl h0), fun _ => hm.1, by omega, hf⟩
  ·split at hm
   ·rename_i h0
    simp only [Bool.and_eq_true, gV] at hm
    exact ⟨hs, .inr (.inr h0), fun _ => hm.1, by omega, hf⟩
   ·cases hm
theorem bi {w : World} {b : Nat} {L : List Value} {t : TypeId} (h : Blk w b L t) (hl : L.length = 10) (v : Value) (lim mode A B C D coast fr code : Int) : Blk ((((((((((w.setCell ⟨b, 0, none⟩ v).setCell ⟨b, 1, none⟩ (.int .i64 lim)).setCell ⟨b, 2, none⟩ (.int .i64 mode)).setCell ⟨b, 3, none⟩ (.int .i64 A)).setCell ⟨b, 4, none⟩ (.int .i64 B)).setCell ⟨b, 5, none⟩ (.int .i64 C)).setCell ⟨b, 6, none⟩ (.int .i64 D)).setCell ⟨b, 7, none⟩ (.int .i64 coast)).setCell ⟨b, 8, none⟩ (.int .i64 fr)).setCell ⟨b, 9, none⟩ (.int .i64 code)) b [v, .int .i64 lim, .int .i64 mode, .int .i64 A, .int .i64 B, .int .i64 C, .int .i64 D, .int .i64 coast, .int .i64 fr, .int .i64 code] t := by
 match L, hl with
 | [x0, x1, x2, x3, x4, x5, x6, x7, x8, x9], _ => exact (((((((((h.set 0 _).set 1 _).set 2 _).set 3 _).set 4 _).set 5 _).set 6 _).set 7 _).set 8 _).set 9 _
theorem bY {w : World} {b : Nat} {t : TypeId} {v : Value} {lim mode A B C D coast fr code : Int} (h : Blk w b [v, .int .i64 lim, .int .i64 mode, .int .i64 A, .int .i64 B, .int .i64 C, .int .i64 D, .int .i64 coast, .int .i64 fr, .int .i64 code] t) : TkO w b v lim mode A B C D coast fr code := ⟨⟨h.cell 0 _ rfl, h.cell 1 _ rfl, h.cell 2 _ rfl, h.cell 3 _ rfl, h.cell 4 _ rfl, h.cell 5 _ rfl, h.cell 6 _ rfl, h.cell 7 _ rfl, h.cell 8 _ rfl⟩, h.cell 9 _ rfl⟩
theorem jq (L : List St) (S : List D3) (lim mode A B C D coast fr : Int) (ad : Option Addr) (c : Nat) (br : Option Addr) (dr : Nat) (p : Addr) (w : World) (hn : L.length ≤ 1048576) (hn2 : S.length ≤ 1048576) (hS : aH w ad L L.length) (hD : co w br S S.length) (hb : ∀ y, ad = some y → y.block < w.heap.size) (hB : ∀ y, br = some y → y.block < w.heap.size) (hcap : L.length ≤ c) (hc9 : c ≤ 9223372036854775807) (hcap2 : S.length ≤ dr) (hd9 : dr ≤ 9223372036854775807) (hE : aY p w) :
  Calls Tryz.prog 6 #[.agg #[.slice ad L.length c, .int .i64 lim, .int .i64 mode, .int .i64 A, .int .i64 B, .int .i64 C, .int .i64 D, .int .i64 coast, .int .i64 fr], .slice br S.length dr] w fun e w' => mG w' w.heap.size (bd ⟨L, lim, mode, A, B, C, D, coast, fr⟩ S) (dP ⟨L, lim, mode, A, B, C, D, coast, fr⟩ S) e ∧ Below w.heap.size w w' := by
 have B0 := yz (aM w (.cells #[.slice ad L.length c, .int .i64 lim, .int .i64 mode, .int .i64 A, .int .i64 B, .int .i64 C, .int .i64 D, .int .i64 coast, .int .i64 fr] 27) (.cells #[.slice none 0 0, .int .i64 0, .int .i64 0, .int .i64 0, .int .i64 0, .int .i64 0, .int .i64 0, .int .i64 0, .int .i64 0, .int .i64 0] 32))
 have A0 := yz ((aD w [.slice ad L.length c, .int .i64 lim, .int .i64 mode, .int .i64 A, .int .i64 B, .int .i64 C, .int .i64 D, .int .i64 coast, .int .i64 fr] 27).alloc (.cells #[.slice none 0 0, .int .i64 0, .int .i64 0, .int .i64 0, .int .i64 0, .int .i64 0, .int .i64 0, .int .i64 0, .int .i64 0, .int .i64 0] 32))
 have R0 := yz (by simpa using aD (w.alloc (.cells #[.slice ad L.length c, .int .i64 lim, .int .i64 mode, .int .i64 A, .int .i64 B, .int .i64 C, .int .i64 D, .int .i64 coast, .int .i64 fr] 27)) [.slice none 0 0, .int .i64 0, .int .i64 0, .int .i64 0, .int .i64 0, .int .i64 0, .int .i64 0, .int .i64 0, .int .i64 0, .int .i64 0] 32 : Blk ((w.alloc (.cells #[.slice ad L.length c, .int .i64 lim, .int .i64 mode, .int .i64 A, .int .i64 B, .int .i64 C, .int .i64 D, .int .i64 coast, .int .i64 fr] 27)).alloc (.cells #[.slice none 0 0, .int .i64 0, .int .i64 0, .int .i64 0, .int .i64 0, .int .i64 0, .int .i64 0, .int .i64 0, .int .i64 0, .int .i64 0] 32)) (w.heap.size + 1) [.slice none 0 0, .int .i64 0, .int .i64 0, .int .i64 0, .int .i64 0, .int .i64 0, .int .i64 0, .int .i64 0, .int .i64 0, .int .i64 0] 32)
 have S0 := yz (hS.kept (yy B0))
 have D0 := yz (hD.kept (yy B0))
 have E0 := yz (hE.kept (yy B0))
 have hl0 := (yy B0).size
 have hB0 : ∀ y, br = some y → y.block < (w.alloc (.cells #[.slice ad L.length c, .int .i64 lim, .int .i64 mode, .int .i64 A, .int .i64 B, .int .i64 C, .int .i64 D, .int .i64 coast, .int .i64 fr] 27)).heap.size + 1 := fun y e => by have := hB y e; simp; omega
 clear hS hD hE hB0
 by_cases hbig : 400 < S.length
 ·have HO := yz (pR (t := ⟨L, lim, mode, A, B, C, D, coast, fr⟩) hbig)
  have hb' : (400 : Int) < (S.length : Int) := by omega
  clear hbig
  go_enter Tryz.func6, Tryz.ntmps6
  go_wp2
  refine bodyPost_ret (v := .agg #[.slice none 0 0, .int .i64 0, .int .i64 0, .int .i64 0, .int .i64 0, .int .i64 0, .int .i64 0, .int .i64 0, .int .i64 0, .int .i64 2]) (by simp [results, Tryz.results6, go_sem]) rfl ⟨?_, aM _ _ _⟩
  rw [(yy HO).1, (yy HO).2]
  exact bz _ _ _
 have hb' : ¬ (400 : Int) < (S.length : Int) := by omega
 have cR := yz (dT L lim mode A B C D coast fr ad c p _ hn hcap hc9 (yy S0) (yy E0))
 go_enter Tryz.func6, Tryz.ntmps6
 go_wp2_with fail
 refine (yy cR).mono ?_
 rintro e w1 ⟨rfl, hx⟩
 have A1 := yz ((yy A0).kept hx)
 have R1 := yz ((yy R0).kept hx)
 have S1 := yz ((yy S0).kept hx)
 have D1 := yz ((yy D0).kept hx)
 have E1 := yz ((yy E0).kept hx)
 have B1 := yz (aj (yy B0) hx)
 have hl1 := hx.size
 clear hx cR A0 R0 S0 D0 E0 B0
 cases hk : aG ⟨L, lim, mode, A, B, C, D, coast, fr⟩
 ·have HO := yz (jt (t := ⟨L, lim, mode, A, B, C, D, coast, fr⟩) (S := S) hbig (by rw [hk]; rfl))
  clear hk
  obtain ⟨r0, r1, r2, r3, r4, r5, r6, r7, r8, r9⟩ := ej (yy R1)
  obtain ⟨g0, g1, g2, g3, g4, g5, g6, g7, g8, g9⟩ := eB (yy R1)
  go_wp2_with fail
  clear r0 r1 r2 r3 r4 r5 r6 r7 r8 r9 g0 g1 g2 g3 g4 g5 g6 g7 g8 g9
  refine bodyPost_ret (v := .agg #[.slice none 0 0, .int .i64 0, .int .i64 0, .int .i64 0, .int .i64 0, .int .i64 0, .int .i64 0, .int .i64 0, .int .i64 0, .int .i64 1]) ?_ rfl ⟨?_, ?_⟩
  ·exact iw _ _ (w.heap.size + 1) _ 0 0 0 0 0 0 0 0 1 rfl (bY (bi (yy R1) rfl _ 0 0 0 0 0 0 0 0 1))
  ·rw [(yy HO).1, (yy HO).2]
   exact bz _ _ _
  ·iterate 10 (refine aB ?_ (show w.heap.size ≤ w.heap.size + 1 by omega) _ _)
   exact yy B1
 go_wp2_with fail
 refine (eu S br dr _ hn2 hcap2 hd9 (yy D1)).mono ?_
 rintro e w2 ⟨rfl, hx⟩
 have A2 := yz ((yy A1).kept hx)
 have R2 := yz ((yy R1).kept hx)
 have S2 := yz ((yy S1).kept hx)
 have D2 := yz ((yy D1).kept hx)
 have E2 := yz ((yy E1).kept hx)
 have B2 := yz (aj (yy B1) hx)
 have hl2 := hx.size
 clear hx A1 R1 S1 D1 E1 B1
 cases hp : aN S
 ·have HO := yz (jt (t := ⟨L, lim, mode, A, B, C, D, coast, fr⟩) (S := S) hbig (by rw [hp]; simp))
  clear hk hp
  obtain ⟨r0, r1, r2, r3, r4, r5, r6, r7, r8, r9⟩ := ej (yy R2)
  obtain ⟨g0, g1, g2, g3, g4, g5, g6, g7, g8, g9⟩ := eB (yy R2)
  go_wp2_with fail
  clear r0 r1 r2 r3 r4 r5 r6 r7 r8 r9 g0 g1 g2 g3 g4 g5 g6 g7 g8 g9
  refine bodyPost_ret (v := .agg #[.slice none 0 0, .int .i64 0, .int .i64 0, .int .i64 0, .int .i64 0, .int .i64 0, .int .i64 0, .int .i64 0, .int .i64 0, .int .i64 1]) ?_ rfl ⟨?_, ?_⟩
  ·exact iw _ _ (w.heap.size + 1) _ 0 0 0 0 0 0 0 0 1 rfl (bY (bi (yy R2) rfl _ 0 0 0 0 0 0 0 0 1))
  ·rw [(yy HO).1, (yy HO).2]
   exact bz _ _ _
  ·iterate 10 (refine aB ?_ (show w.heap.size ≤ w.heap.size + 1 by omega) _ _)
   exact yy B2
 by_cases hf : fr = 1000000
 ·have HO := yz (nD (t := ⟨L, lim, mode, A, B, C, D, coast, fr⟩) (S := S) hbig hk hp hf)
  clear hk hp
  obtain ⟨q0, q1, q2, q3, q4, q5, q6, q7, q8⟩ := dM (yy A2)
  obtain ⟨r0, r1, r2, r3, r4, r5, r6, r7, r8, r9⟩ := ej (yy R2)
  obtain ⟨g0, g1, g2, g3, g4, g5, g6, g7, g8, g9⟩ := eB (yy R2)
  go_wp2_with fail
  clear r0 r1 r2 r3 r4 r5 r6 r7 r8 r9 g0 g1 g2 g3 g4 g5 g6 g7 g8 g9
  refine bodyPost_ret (v := .agg #[.slice none 0 0, .int .i64 0, .int .i64 0, .int .i64 0, .int .i64 0, .int .i64 0, .int .i64 0, .int .i64 0, .int .i64 0, .int .i64 9]) ?_ rfl ⟨?_, ?_⟩
  ·exact iw _ _ (w.heap.size + 1) _ 0 0 0 0 0 0 0 0 9 rfl (bY (bi (yy R2) rfl _ 0 0 0 0 0 0 0 0 9))
  ·rw [(yy HO).1, (yy HO).2]
   exact bz _ _ _
  ·iterate 10 (refine aB ?_ (show w.heap.size ≤ w.heap.size + 1 by omega) _ _)
   exact yy B2
 have HO := yz (jv (t := ⟨L, lim, mode, A, B, C, D, coast, fr⟩) (S := S) hbig hk hp hf)
 have HL := yz (oH ⟨L, lim, mode, A, B, C, D, coast, fr⟩ S)
 obtain ⟨hsk, hmd, _, hco, hfr⟩ := kD hk
 dsimp only at hsk hmd hco hfr
 have cW := yz (fun W h => gy L lim mode A B C D coast fr ad c W hn h)
 have cA := yz (fun (W : World) (a : Option Addr) (cap : Nat) h1 h2 h3 h4 h5 h6 h7 => oI L S lim mode A B C D coast fr a br cap dr p W hn h1 h2 hn2 hcap2 hd9 h3 h4 h5 h6 h7 hmd hco.1 hco.2 hfr.1 hfr.2)
 obtain ⟨lr, hlr⟩ : ∃ z, bS ⟨L, lim, mode, A, B, C, D, coast, fr⟩ S = z := ⟨_, rfl⟩
 rw [hlr] at HO HL cA
 obtain ⟨L2, lim2, mode2, A2', B2', C2, D2', coast2, fr2⟩ := lr
 unfold tkV at cA
 dsimp only at cA HL
 clear hk hp hlr hsk hmd hco hfr
 obtain ⟨q0, q1, q2, q3, q4, q5, q6, q7, q8⟩ := dM (yy A2)
 go_wp2_with fail
 clear q0 q1 q2 q3 q4 q5 q6 q7 q8
 refine (yy cW _ (yy S2)).mono ?_
 rintro e w3 ⟨a, cap, rfl, hC, hx⟩
 have C3 := yz (hC.low (B' := w.heap.size + 1 + 1) (by omega))
 have hcm := hC.capMax
 have hab : ∀ y, a = some y → y.block < w3.heap.size := fun y e => (hC.block y e).2
 have R3 := yz ((yy R2).kept hx)
 have D3 := yz ((yy D2).kept hx)
 have E3 := yz ((yy E2).kept hx)
 have B3 := yz (aj (yy B2) hx)
 have hl3 := hx.size
 clear hx hC A2 R2 S2 D2 E2 B2 cW
 have hm8 : maxLen ≤ 9223372036854775807 := by decide +kernel
 go_wp2_with fail
 refine (yy cA _ a cap hcm.1 (Nat.le_trans hcm.2 hm8) (yy C3).stars (yy D3) hab (fun y e => by have := hB y e; omega) (yy E3)).mono ?_
 rintro e w4 ⟨rfl, hx⟩
 have C4 := yz ((yy C3).kept hx)
 have R4 := yz ((yy R3).kept hx)
 have B4 := yz (aj (yy B3) hx)
 clear hx C3 R3 B3 D3 E3 cA
 go_wp2_with fail
 refine (jL lim2 mode2 A2' B2' C2 D2' coast2 fr2 a L.length cap _).mono ?_
 rintro e w5 ⟨rfl, hx⟩
 have C5 := yz ((yy C4).kept hx)
 have R5 := yz ((yy R4).kept hx)
 have B5 := yz (aj (yy B4) hx)
 clear hx C4 R4 B4
 obtain ⟨r0, r1, r2, r3, r4, r5, r6, r7, r8, r9⟩ := ej (yy R5)
 obtain ⟨g0, g1, g2, g3, g4, g5, g6, g7, g8, g9⟩ := eB (yy R5)
 go_wp2_with fail
 clear r0 r1 r2 r3 r4 r5 r6 r7 r8 r9 g0 g1 g2 g3 g4 g5 g6 g7 g8 g9
 have hL2 : L2 = L := yy HL
 refine bodyPost_ret (v := .agg #[.slice a L.length cap, .int .i64 lim2, .int .i64 mode2, .int .i64 A2', .int .i64 B2', .int .i64 C2, .int .i64 D2', .int .i64 coast2, .int .i64 fr2, .int .i64 0]) ?_ rfl ⟨?_, ?_⟩
 ·exact iw _ _ (w.heap.size + 1) _ lim2 mode2 A2' B2' C2 D2' coast2 fr2 0 rfl (bY (bi (yy R5) rfl _ lim2 mode2 A2' B2' C2 D2' coast2 fr2 0))
 ·rw [(yy HO).1, (yy HO).2]
  subst hL2
  refine ⟨a, cap, rfl, ?_⟩
  refine aq.low (B := w.heap.size + 1 + 1) ?_ (by omega)
  iterate 10 (refine aq.far ?_ (Nat.lt_succ_self (w.heap.size + 1)) _ _)
  exact yy C5
 ·iterate 10 (refine aB ?_ (show w.heap.size ≤ w.heap.size + 1 by omega) _ _)
  exact yy B5
end
end Go.Proofs.YtgiodlllokdcdaaGreatDoor
