/- Several texts in one: LkE. -/
import Derived.Test.YtgiodlllokdcdaaGreatDoorQFnModeOwn37
namespace Go.Proofs.YtgiodlllokdcdaaGreatDoor
set_option linter.unusedVariables false
set_option linter.unusedSimpArgs false
set_option maxRecDepth 100000
set_option maxHeartbeats 8000000
section
open Go.RowKit Go.Sort
theorem du (T : Array Value) (X : World) (b : Nat) (v : Value) (lim mode A B C D coast fr code : Int) (hT : T.getD 4 undef = .pointer (some ⟨b, 0, none⟩)) (h : TkO X b v lim mode A B C D coast fr code) : (results Tryz.f39 T).run Tryz.prog X = .ok (.agg #[v, .int .i64 lim, .int .i64 mode, .int .i64 A, .int .i64 B, .int .i64 C, .int .i64 D, .int .i64 coast, .int .i64 fr, .int .i64 code]) X := by
 obtain ⟨⟨h0, h1, h2, h3, h4, h5, h6, h7, h8⟩, h9⟩ := h
 simp only [Array.getD_eq_getD_getElem?] at hT
 simp [results, Tryz.results39, go_sem, hT, h0, h1, h2, h3, h4, h5, h6, h7, h8, h9]
theorem fV (T : Array Value) (X : World) (b : Nat) (v : Value) (lim mode A B C D coast fr code : Int) (hT : T.getD 4 undef = .pointer (some ⟨b, 0, none⟩)) (h : TkO X b v lim mode A B C D coast fr code) : (results Tryz.f11 T).run Tryz.prog X = .ok (.agg #[v, .int .i64 lim, .int .i64 mode, .int .i64 A, .int .i64 B, .int .i64 C, .int .i64 D, .int .i64 coast, .int .i64 fr, .int .i64 code]) X := by
 obtain ⟨⟨h0, h1, h2, h3, h4, h5, h6, h7, h8⟩, h9⟩ := h
 simp only [Array.getD_eq_getD_getElem?] at hT
 simp [results, Tryz.results11, go_sem, hT, h0, h1, h2, h3, h4, h5, h6, h7, h8, h9]
theorem rh {L : List St} {S : List D3} (hk : aT L = true) (hp : aN S = true) (h0 : bk L S = 0) : aP L S = fH L S (bC L S) := by
 have h12 := (cx hk).1
 have h6 := (bq hp).1
 obtain ⟨e1, e2, e3⟩ := im (L := L) (S := S) (by omega) (by unfold jV; rw [hk, hp]; rfl)
 unfold aP
 rw [e3, if_pos h0, e1]
theorem sZ {L : List St} {S : List D3} (hk : aT L = true) (hp : aN S = true) (h0 : bk L S ≠ 0) : (aP L S).2 ≠ 0 := by
 have h12 := (cx hk).1
 have h6 := (bq hp).1
 obtain ⟨e1, e2, e3⟩ := im (L := L) (S := S) (by omega) (by unfold jV; rw [hk, hp]; rfl)
 unfold aP
 rw [e3, if_neg h0]
 exact h0
theorem pQ (L : List St) (S : List D3) (lim mode A B C D coast fr : Int) (ad : Option Addr) (c : Nat) (br : Option Addr) (dr : Nat) (w : World) (hn : L.length ≤ 1048576) (hdr : S.length ≤ dr) (hd9 : dr ≤ 9223372036854775807) (hS : aH w ad L L.length) (hD : co w br S S.length) (hb : ∀ y, ad = some y → y.block < w.heap.size) (hB : ∀ y, br = some y → y.block < w.heap.size) (hsk : aT L = true) (hsp : aN S = true) (hm : mode = 0 ∨ mode = 1 ∨ mode = 2) (hr : mode ≠ 0 → aC A B C D = true) (hc0 : 0 ≤ coast) (hc5 : coast ≤ 5) (hf0 : 0 ≤ fr) (hf1 : fr ≤ 1000000) :
  Calls Tryz.prog 39 #[.agg #[.slice ad L.length c, .int .i64 lim, .int .i64 mode, .int .i64 A, .int .i64 B, .int .i64 C, .int .i64 D, .int .i64 coast, .int .i64 fr], .slice br S.length dr] w fun e w' => mG w' w.heap.size (bS ⟨L, lim, mode, A, B, C, D, coast, fr⟩ S) 0 e ∧ Below w.heap.size w w' := by
 have hwr : wrap64 (fr + 1) = fr + 1 := ap (by omega) (by omega)
 have hwc : wrap64 (coast + 1) = coast + 1 := ap (by omega) (by omega)
 have B0 := yz (aM w (.cells #[.slice ad L.length c, .int .i64 lim, .int .i64 mode, .int .i64 A, .int .i64 B, .int .i64 C, .int .i64 D, .int .i64 coast, .int .i64 fr] 27) (.cells #[.slice none 0 0, .int .i64 0, .int .i64 0, .int .i64 0, .int .i64 0, .int .i64 0, .int .i64 0, .int .i64 0, .int .i64 0, .int .i64 0] 32))
 have A0 := yz ((aD w [.slice ad L.length c, .int .i64 lim, .int .i64 mode, .int .i64 A, .int .i64 B, .int .i64 C, .int .i64 D, .int .i64 coast, .int .i64 fr] 27).alloc (.cells #[.slice none 0 0, .int .i64 0, .int .i64 0, .int .i64 0, .int .i64 0, .int .i64 0, .int .i64 0, .int .i64 0, .int .i64 0, .int .i64 0] 32))
 have R0 := yz (by simpa using aD (w.alloc (.cells #[.slice ad L.length c, .int .i64 lim, .int .i64 mode, .int .i64 A, .int .i64 B, .int .i64 C, .int .i64 D, .int .i64 coast, .int .i64 fr] 27)) [.slice none 0 0, .int .i64 0, .int .i64 0, .int .i64 0, .int .i64 0, .int .i64 0, .int .i64 0, .int .i64 0, .int .i64 0, .int .i64 0] 32 : Blk ((w.alloc (.cells #[.slice ad L.length c, .int .i64 lim, .int .i64 mode, .int .i64 A, .int .i64 B, .int .i64 C, .int .i64 D, .int .i64 coast, .int .i64 fr] 27)).alloc (.cells #[.slice none 0 0, .int .i64 0, .int .i64 0, .int .i64 0, .int .i64 0, .int .i64 0, .int .i64 0, .int .i64 0, .int .i64 0, .int .i64 0] 32)) (w.heap.size + 1) [.slice none 0 0, .int .i64 0, .int .i64 0, .int .i64 0, .int .i64 0, .int .i64 0, .int .i64 0, .int .i64 0, .int .i64 0, .int .i64 0] 32)
 have hl0 : w.heap.size + 1 + 1 ≤ ((w.alloc (.cells #[.slice ad L.length c, .int .i64 lim, .int .i64 mode, .int .i64 A, .int .i64 B, .int .i64 C, .int .i64 D, .int .i64 coast, .int .i64 fr] 27)).alloc (.cells #[.slice none 0 0, .int .i64 0, .int .i64 0, .int .i64 0, .int .i64 0, .int .i64 0, .int .i64 0, .int .i64 0, .int .i64 0, .int .i64 0] 32)).heap.size := by simp
 have cC := yz (gU L lim mode A B C D coast fr ad c _ hn (hS.kept (yy B0)))
 have cM : Hid (mode ≠ 0 → ∀ W : World, Below w.heap.size w W → Calls Tryz.prog 72 #[.slice ad L.length c, .agg #[.int .i64 A, .int .i64 B, .int .i64 C, .int .i64 D], .slice br S.length dr] W fun e w' => (∃ v, e = .returned (.tuple #[v, .int .i64 (aJ (aV L A B C D S) : Int)])) ∧ Below W.heap.size W w') := yz (fun h0 W h => (oG L S _ br c dr A B C D W hsk (hr h0) hsp (hS.kept h) (hD.kept h)).mono fun e w' hh => by
  obtain ⟨⟨v, he, _⟩, hx⟩ := hh
  rw [tE hsk (hr h0) hsp] at he
  exact ⟨⟨v, he⟩, hx⟩)
 have cI := yz (fun (W : World) (h : Below w.heap.size w W) => kQ L S ad br c dr W hsk hsp hdr hd9 (hS.kept h) (hD.kept h) (fun y e => Nat.lt_of_lt_of_le (hb y e) h.size) (fun y e => Nat.lt_of_lt_of_le (hB y e) h.size))
 obtain ⟨⟨⟨t1, t2, t3, t4⟩, tc⟩, htv⟩ : ∃ z, aP L S = z := ⟨_, rfl⟩
 have cF : Hid (bk L S = 0 → ∀ (W : World) (x : Option Addr) (k : Nat), Below w.heap.size w W → eP W x (bC L S) (bC L S).length → Calls Tryz.prog 75 #[.slice ad L.length c, .slice br S.length dr, .slice x (bC L S).length k] W fun e w' => e = .returned (.agg #[.int .i64 t1, .int .i64 t2, .int .i64 t3, .int .i64 t4, .int .i64 tc]) ∧ Below W.heap.size W w') := yz (fun h0 W x k h hN => by
  have h1 := qJ L S (bC L S) _ br x c dr k W (ky hsk hsp h0) (hS.kept h) (hD.kept h) hN
  rw [si hsk hsp h0, ← rh hsk hsp h0, htv] at h1
  exact h1)
 have hTN : Hid (bk L S ≠ 0 → tc ≠ 0) := yz (fun h0 => by have := sZ hsk hsp h0; rw [htv] at this; exact this)
 have hO1 : Hid (mode ≠ 0 → 2 ≤ aJ (aV L A B C D S) → bS ⟨L, lim, mode, A, B, C, D, coast, fr⟩ S = ⟨L, lim, 1, A, B, C, D, 0, fr + 1⟩) := yz (fun h1 h2 => by unfold bS; rw [if_pos ⟨h1, h2⟩]; rfl)
 have hO2 : Hid (¬ (mode ≠ 0 ∧ 2 ≤ aJ (aV L A B C D S)) → tc = 0 → bS ⟨L, lim, mode, A, B, C, D, coast, fr⟩ S = ⟨L, lim, 1, t1, t2, t3, t4, 0, fr + 1⟩) := yz (fun h1 h2 => by unfold bS; dsimp only; rw [if_neg h1, htv, if_pos h2]; rfl)
 have hO3 : Hid (¬ (mode ≠ 0 ∧ 2 ≤ aJ (aV L A B C D S)) → tc ≠ 0 → bS ⟨L, lim, mode, A, B, C, D, coast, fr⟩ S = aQ ⟨L, lim, mode, A, B, C, D, coast, fr + 1⟩) := yz (fun h1 h2 => by unfold bS; dsimp only; rw [if_neg h1, htv, if_neg h2])
 have hid := lK L S
 generalize aJ (aV L A B C D S) = cn at *
 clear hS htv hsk hsp hr hf0 hf1 hid
 have hm0 := hm
 clear hm
 go_enter Tryz.func39, Tryz.ntmps39
 go_wp2_with fail
 refine (yy cC).mono ?_
 rintro e w2 ⟨a, cap, rfl, hC, hx⟩
 have Z := an w2 (.cells #[.slice a L.length cap, .int .i64 lim, .int .i64 mode, .int .i64 A, .int .i64 B, .int .i64 C, .int .i64 D, .int .i64 coast, .int .i64 (fr + 1)] 27)
 have C2 := yz ((hC.low (B' := w.heap.size + 1 + 1) (by omega)).kept Z)
 have hcb : ∀ y, a = some y → y.block < w2.heap.size := fun y e => (hC.block y e).2
 have p8 := (((yy A0).kept hx).kept (an w2 (.cells #[.slice a L.length cap, .int .i64 lim, .int .i64 mode, .int .i64 A, .int .i64 B, .int .i64 C, .int .i64 D, .int .i64 coast, .int .i64 fr] 27))).cell 8 _ rfl
 have A2 := yz (((yy A0).kept hx).kept Z)
 have R2 := yz (((yy R0).kept hx).kept Z)
 have B2 := yz (aj (aj (yy B0) hx) Z)
 have T2 := yz (aD w2 [.slice a L.length cap, .int .i64 lim, .int .i64 mode, .int .i64 A, .int .i64 B, .int .i64 C, .int .i64 D, .int .i64 coast, .int .i64 (fr + 1)] 27)
 have hl2 : w.heap.size + 1 + 1 ≤ w2.heap.size := Nat.le_trans hl0 hx.size
 have hD2 := yz (hD.kept (yy B2))
 clear hx hC Z A0 R0 B0 cC hl0 hD
 obtain ⟨q0, q1, q2, q3, q4, q5, q6, q7, q8⟩ := dM (yy A2)
 obtain ⟨s0, s1, s2, s3, s4, s5, s6, s7, s8⟩ := dM (yy T2)
 obtain ⟨f0, f1, f2, f3, f4, f5, f6, f7, f8⟩ := iQ (yy T2)
 by_cases h1 : mode = 0
 ·have hneg : ¬ (mode ≠ 0 ∧ 2 ≤ cn) := fun h => h.1 h1
  subst h1
  go_wp2_with fail
  clear q0 q1 q2 q3 q4 q5 q6 q7 q8 s0 s1 s2 s3 s4 s5 s6 s7 s8 f0 f1 f2 f3 f4 f5 f6 f7 f8 p8
  refine (yy cI _ (yy B2)).mono ?_
  rintro e w4 ⟨hO, hx⟩
  obtain ⟨x, k, rfl, hv⟩ := nJ hO
  have Z := an w4 (.cells #[.slice x (bC L S).length k, .int .i64 (dI L S), .int .i64 (bk L S)] 100)
  have A4 := yz (((yy A2).kept hx).kept Z)
  have R4 := yz (((yy R2).kept hx).kept Z)
  have C4 := yz (((yy C2).kept hx).kept Z)
  have T4 := yz (((yy T2).kept hx).kept Z)
  have B4 := yz (aj (aj (yy B2) hx) Z)
  have I4 := yz (aD w4 [.slice x (bC L S).length k, .int .i64 (dI L S), .int .i64 (bk L S)] 100)
  have N4 := yz (hv.kept Z)
  clear hx hO hv Z
  have cF4 : Hid (bk L S = 0 → Calls Tryz.prog 75 #[.slice ad L.length c, .slice br S.length dr, .slice x (bC L S).length k] (w4.alloc (.cells #[.slice x (bC L S).length k, .int .i64 (dI L S), .int .i64 (bk L S)] 100)) fun e w' => e = .returned (.agg #[.int .i64 t1, .int .i64 t2, .int .i64 t3, .int .i64 t4, .int .i64 tc]) ∧ Below (w4.alloc (.cells #[.slice x (bC L S).length k, .int .i64 (dI L S), .int .i64 (bk L S)] 100)).heap.size (w4.alloc (.cells #[.slice x (bC L S).length k, .int .i64 (dI L S), .int .i64 (bk L S)] 100)) w') := yz (fun h0 => yy cF h0 _ x k (yy B4) (yy N4))
  clear N4
  generalize (bC L S).length = nI at *
  generalize bk L S = kd at *
  generalize dI L S = kc at *
  obtain ⟨j0, j1, j2⟩ := lm (yy I4)
  obtain ⟨q0, q1, q2, q3, q4, q5, q6, q7, q8⟩ := dM (yy A4)
  obtain ⟨s0, s1, s2, s3, s4, s5, s6, s7, s8⟩ := dM (yy T4)
  obtain ⟨f0, f1, f2, f3, f4, f5, f6, f7, f8⟩ := iQ (yy T4)
  by_cases h3 : kd = 0
  ·have cF5 := yz (yy cF4 h3)
   clear cF4
   subst h3
   go_wp2_with fail
   clear j0 j1 j2 q0 q1 q2 q3 q4 q5 q6 q7 q8 s0 s1 s2 s3 s4 s5 s6 s7 s8 f0 f1 f2 f3 f4 f5 f6 f7 f8
   refine (yy cF5).mono ?_
   rintro e w5 ⟨rfl, hx⟩
   have Z := an w5 (.cells #[.int .i64 t1, .int .i64 t2, .int .i64 t3, .int .i64 t4, .int .i64 tc] 48)
   have A5 := yz (((yy A4).kept hx).kept Z)
   have R5 := yz (((yy R4).kept hx).kept Z)
   have C5 := yz (((yy C4).kept hx).kept Z)
   have T5 := yz (((yy T4).kept hx).kept Z)
   have B5 := yz (aj (aj (yy B4) hx) Z)
   have U5 := yz (aD w5 [.int .i64 t1, .int .i64 t2, .int .i64 t3, .int .i64 t4, .int .i64 tc] 48)
   clear hx Z cF5 A4 R4 C4 T4 B4 I4
   obtain ⟨j0, j1, j2, j3, j4⟩ := jj (yy U5)
   obtain ⟨q0, q1, q2, q3, q4, q5, q6, q7, q8⟩ := dM (yy A5)
   obtain ⟨s0, s1, s2, s3, s4, s5, s6, s7, s8⟩ := dM (yy T5)
   obtain ⟨f0, f1, f2, f3, f4, f5, f6, f7, f8⟩ := iQ (yy T5)
   by_cases h4 : tc = 0
   ·have HO := yz (yy hO2 hneg h4)
    subst h4
    go_wp2_with fail
    clear j0 j1 j2 j3 j4 q0 q1 q2 q3 q4 q5 q6 q7 q8 s0 s1 s2 s3 s4 s5 s6 s7 s8 f0 f1 f2 f3 f4 f5 f6 f7 f8
    refine (gm lim _ A B C D coast (fr + 1) t1 t2 t3 t4 a L.length cap _).mono ?_
    rintro e w6 ⟨rfl, hx⟩
    have R6 := yz ((yy R5).kept hx)
    have C6 := yz ((yy C5).kept hx)
    have B6 := yz (aj (yy B5) hx)
    clear hx
    obtain ⟨r0, r1, r2, r3, r4, r5, r6, r7, r8, r9⟩ := ej (yy R6)
    obtain ⟨g0, g1, g2, g3, g4, g5, g6, g7, g8, g9⟩ := eB (yy R6)
    go_wp2_with fail
    clear r0 r1 r2 r3 r4 r5 r6 r7 r8 r9 g0 g1 g2 g3 g4 g5 g6 g7 g8 g9
    rw [yy HO]
    refine bodyPost_ret (v := .agg #[.slice a L.length cap, .int .i64 lim, .int .i64 1, .int .i64 t1, .int .i64 t2, .int .i64 t3, .int .i64 t4, .int .i64 0, .int .i64 (fr + 1), .int .i64 0]) ?_ rfl ⟨⟨a, cap, rfl, ?_⟩, ?_⟩
    ·refine du _ _ (w.heap.size + 1) _ lim 1 t1 t2 t3 t4 0 (fr + 1) 0 rfl (bY (t := 32) (bi (L := [.slice none 0 0, .int .i64 0, .int .i64 0, .int .i64 0, .int .i64 0, .int .i64 0, .int .i64 0, .int .i64 0, .int .i64 0, .int .i64 0]) (t := 32) ?_ rfl _ lim 1 t1 t2 t3 t4 0 (fr + 1) 0))
     exact yy R6
    ·refine aq.low (B := w.heap.size + 1 + 1) ?_ (by omega)
     iterate 10 (refine aq.far ?_ (Nat.lt_succ_self (w.heap.size + 1)) _ _)
     exact yy C6
    ·iterate 10 (refine aB ?_ (show w.heap.size ≤ w.heap.size + 1 by omega) _ _)
     exact yy B6
   ·skip
    obtain ⟨r0, r1, r2, r3, r4, r5, r6, r7, r8, r9⟩ := ej (yy R5)
    obtain ⟨g0, g1, g2, g3, g4, g5, g6, g7, g8, g9⟩ := eB (yy R5)
    have HO : Hid (bS ⟨L, lim, 0, A, B, C, D, coast, fr⟩ S = ⟨L, lim, 0, A, B, C, D, coast, fr + 1⟩) := yz (by rw [yy hO3 hneg h4]; rfl)
    go_wp2_with fail
    clear q0 q1 q2 q3 q4 q5 q6 q7 q8 s0 s1 s2 s3 s4 s5 s6 s7 s8 f0 f1 f2 f3 f4 f5 f6 f7 f8 r0 r1 r2 r3 r4 r5 r6 r7 r8 r9 g0 g1 g2 g3 g4 g5 g6 g7 g8 g9 j0 j1 j2 j3 j4
    rw [yy HO]
    refine bodyPost_ret (v := .agg #[.slice a L.length cap, .int .i64 lim, .int .i64 0, .int .i64 A, .int .i64 B, .int .i64 C, .int .i64 D, .int .i64 coast, .int .i64 (fr + 1), .int .i64 0]) ?_ rfl ⟨⟨a, cap, rfl, ?_⟩, ?_⟩
    ·refine du _ _ (w.heap.size + 1) _ lim 0 A B C D coast (fr + 1) 0 rfl (bY (t := 32) (bi (L := [.slice none 0 0, .int .i64 0, .int .i64 0, .int .i64 0, .int .i64 0, .int .i64 0, .int .i64 0, .int .i64 0, .int .i64 0, .int .i64 0]) (t := 32) ?_ rfl _ lim 0 A B C D coast (fr + 1) 0))
     exact yy R5
    ·refine aq.low (B := w.heap.size + 1 + 1) ?_ (by omega)
     iterate 10 (refine aq.far ?_ (Nat.lt_succ_self (w.heap.size + 1)) _ _)
     exact yy C5
    ·iterate 10 (refine aB ?_ (show w.heap.size ≤ w.heap.size + 1 by omega) _ _)
     exact yy B5
  ·have htc := yy hTN h3
   clear cF4
   obtain ⟨r0, r1, r2, r3, r4, r5, r6, r7, r8, r9⟩ := ej (yy R4)
   obtain ⟨g0, g1, g2, g3, g4, g5, g6, g7, g8, g9⟩ := eB (yy R4)
   have HO : Hid (bS ⟨L, lim, 0, A, B, C, D, coast, fr⟩ S = ⟨L, lim, 0, A, B, C, D, coast, fr + 1⟩) := yz (by rw [yy hO3 hneg htc]; rfl)
   go_wp2_with fail
   clear q0 q1 q2 q3 q4 q5 q6 q7 q8 s0 s1 s2 s3 s4 s5 s6 s7 s8 f0 f1 f2 f3 f4 f5 f6 f7 f8 r0 r1 r2 r3 r4 r5 r6 r7 r8 r9 g0 g1 g2 g3 g4 g5 g6 g7 g8 g9 j0 j1 j2
   rw [yy HO]
   refine bodyPost_ret (v := .agg #[.slice a L.length cap, .int .i64 lim, .int .i64 0, .int .i64 A, .int .i64 B, .int .i64 C, .int .i64 D, .int .i64 coast, .int .i64 (fr + 1), .int .i64 0]) ?_ rfl ⟨⟨a, cap, rfl, ?_⟩, ?_⟩
   ·refine du _ _ (w.heap.size + 1) _ lim 0 A B C D coast (fr + 1) 0 rfl (bY (t := 32) (bi (L := [.slice none 0 0, .int .i64 0, .int .i64 0, .int .i64 0, .int .i64 0, .int .i64 0, .int .i64 0, .int .i64 0, .int .i64 0, .int .i64 0]) (t := 32) ?_ rfl _ lim 0 A B C D coast (fr + 1) 0))
    exact yy R4
   ·refine aq.low (B := w.heap.size + 1 + 1) ?_ (by omega)
    iterate 10 (refine aq.far ?_ (Nat.lt_succ_self (w.heap.size + 1)) _ _)
    exact yy C4
   ·iterate 10 (refine aB ?_ (show w.heap.size ≤ w.heap.size + 1 by omega) _ _)
    exact yy B4
 have cM2 := yz (yy cM h1 _ (yy B2))
 clear cM
 go_wp2_with fail
 clear q0 q1 q2 q3 q4 q5 q6 q7 q8 s0 s1 s2 s3 s4 s5 s6 s7 s8 f0 f1 f2 f3 f4 f5 f6 f7 f8 p8
 refine (yy cM2).mono ?_
 rintro e w3 ⟨⟨mv, rfl⟩, hx⟩
 have A3 := yz ((yy A2).kept hx)
 have R3 := yz ((yy R2).kept hx)
 have C3 := yz ((yy C2).kept hx)
 have T3 := yz ((yy T2).kept hx)
 have B3 := yz (aj (yy B2) hx)
 clear hx cM2 A2 R2 C2 T2 B2
 obtain ⟨q0, q1, q2, q3, q4, q5, q6, q7, q8⟩ := dM (yy A3)
 obtain ⟨s0, s1, s2, s3, s4, s5, s6, s7, s8⟩ := dM (yy T3)
 obtain ⟨f0, f1, f2, f3, f4, f5, f6, f7, f8⟩ := iQ (yy T3)
 by_cases h2 : 2 ≤ cn
 ·have HO := yz (yy hO1 h1 h2)
  have h2' : (2 : Int) ≤ (cn : Int) := by omega
  go_wp2_with fail
  clear q0 q1 q2 q3 q4 q5 q6 q7 q8 s0 s1 s2 s3 s4 s5 s6 s7 s8 f0 f1 f2 f3 f4 f5 f6 f7 f8
  refine (gm lim _ A B C D coast (fr + 1) A B C D a L.length cap _).mono ?_
  rintro e w4 ⟨rfl, hx⟩
  have R4 := yz ((yy R3).kept hx)
  have C4 := yz ((yy C3).kept hx)
  have B4 := yz (aj (yy B3) hx)
  clear hx
  obtain ⟨r0, r1, r2, r3, r4, r5, r6, r7, r8, r9⟩ := ej (yy R4)
  obtain ⟨g0, g1, g2, g3, g4, g5, g6, g7, g8, g9⟩ := eB (yy R4)
  go_wp2_with fail
  clear r0 r1 r2 r3 r4 r5 r6 r7 r8 r9 g0 g1 g2 g3 g4 g5 g6 g7 g8 g9
  rw [yy HO]
  refine bodyPost_ret (v := .agg #[.slice a L.length cap, .int .i64 lim, .int .i64 1, .int .i64 A, .int .i64 B, .int .i64 C, .int .i64 D, .int .i64 0, .int .i64 (fr + 1), .int .i64 0]) ?_ rfl ⟨⟨a, cap, rfl, ?_⟩, ?_⟩
  ·refine du _ _ (w.heap.size + 1) _ lim 1 A B C D 0 (fr + 1) 0 rfl (bY (t := 32) (bi (L := [.slice none 0 0, .int .i64 0, .int .i64 0, .int .i64 0, .int .i64 0, .int .i64 0, .int .i64 0, .int .i64 0, .int .i64 0, .int .i64 0]) (t := 32) ?_ rfl _ lim 1 A B C D 0 (fr + 1) 0))
   exact yy R4
  ·refine aq.low (B := w.heap.size + 1 + 1) ?_ (by omega)
   iterate 10 (refine aq.far ?_ (Nat.lt_succ_self (w.heap.size + 1)) _ _)
   exact yy C4
  ·iterate 10 (refine aB ?_ (show w.heap.size ≤ w.heap.size + 1 by omega) _ _)
   exact yy B4
 have hneg : ¬ (mode ≠ 0 ∧ 2 ≤ cn) := fun h => h2 h.2
 have h2' : ¬ (2 : Int) ≤ (cn : Int) := by omega
 go_wp2_with fail
 clear q0 q1 q2 q3 q4 q5 q6 q7 q8 s0 s1 s2 s3 s4 s5 s6 s7 s8 f0 f1 f2 f3 f4 f5 f6 f7 f8
 refine (yy cI _ (yy B3)).mono ?_
 rintro e w4 ⟨hO, hx⟩
 obtain ⟨x, k, rfl, hv⟩ := nJ hO
 have Z := an w4 (.cells #[.slice x (bC L S).length k, .int .i64 (dI L S), .int .i64 (bk L S)] 100)
 have A4 := yz (((yy A3).kept hx).kept Z)
 have R4 := yz (((yy R3).kept hx).kept Z)
 have C4 := yz (((yy C3).kept hx).kept Z)
 have T4 := yz (((yy T3).kept hx).kept Z)
 have B4 := yz (aj (aj (yy B3) hx) Z)
 have I4 := yz (aD w4 [.slice x (bC L S).length k, .int .i64 (dI L S), .int .i64 (bk L S)] 100)
 have N4 := yz (hv.kept Z)
 clear hx hO hv Z
 have cF4 : Hid (bk L S = 0 → Calls Tryz.prog 75 #[.slice ad L.length c, .slice br S.length dr, .slice x (bC L S).length k] (w4.alloc (.cells #[.slice x (bC L S).length k, .int .i64 (dI L S), .int .i64 (bk L S)] 100)) fun e w' => e = .returned (.agg #[.int .i64 t1, .int .i64 t2, .int .i64 t3, .int .i64 t4, .int .i64 tc]) ∧ Below (w4.alloc (.cells #[.slice x (bC L S).length k, .int .i64 (dI L S), .int .i64 (bk L S)] 100)).heap.size (w4.alloc (.cells #[.slice x (bC L S).length k, .int .i64 (dI L S), .int .i64 (bk L S)] 100)) w') := yz (fun h0 => yy cF h0 _ x k (yy B4) (yy N4))
 clear N4
 generalize (bC L S).length = nI at *
 generalize bk L S = kd at *
 generalize dI L S = kc at *
 obtain ⟨j0, j1, j2⟩ := lm (yy I4)
 obtain ⟨q0, q1, q2, q3, q4, q5, q6, q7, q8⟩ := dM (yy A4)
 obtain ⟨s0, s1, s2, s3, s4, s5, s6, s7, s8⟩ := dM (yy T4)
 obtain ⟨f0, f1, f2, f3, f4, f5, f6, f7, f8⟩ := iQ (yy T4)
 by_cases h3 : kd = 0
 ·have cF5 := yz (yy cF4 h3)
  clear cF4
  subst h3
  go_wp2_with fail
  clear j0 j1 j2 q0 q1 q2 q3 q4 q5 q6 q7 q8 s0 s1 s2 s3 s4 s5 s6 s7 s8 f0 f1 f2 f3 f4 f5 f6 f7 f8
  refine (yy cF5).mono ?_
  rintro e w5 ⟨rfl, hx⟩
  have Z := an w5 (.cells #[.int .i64 t1, .int .i64 t2, .int .i64 t3, .int .i64 t4, .int .i64 tc] 48)
  have A5 := yz (((yy A4).kept hx).kept Z)
  have R5 := yz (((yy R4).kept hx).kept Z)
  have C5 := yz (((yy C4).kept hx).kept Z)
  have T5 := yz (((yy T4).kept hx).kept Z)
  have B5 := yz (aj (aj (yy B4) hx) Z)
  have U5 := yz (aD w5 [.int .i64 t1, .int .i64 t2, .int .i64 t3, .int .i64 t4, .int .i64 tc] 48)
  clear hx Z cF5 A4 R4 C4 T4 B4 I4
  obtain ⟨j0, j1, j2, j3, j4⟩ := jj (yy U5)
  obtain ⟨q0, q1, q2, q3, q4, q5, q6, q7, q8⟩ := dM (yy A5)
  obtain ⟨s0, s1, s2, s3, s4, s5, s6, s7, s8⟩ := dM (yy T5)
  obtain ⟨f0, f1, f2, f3, f4, f5, f6, f7, f8⟩ := iQ (yy T5)
  by_cases h4 : tc = 0
  ·have HO := yz (yy hO2 hneg h4)
   subst h4
   go_wp2_with fail
   clear j0 j1 j2 j3 j4 q0 q1 q2 q3 q4 q5 q6 q7 q8 s0 s1 s2 s3 s4 s5 s6 s7 s8 f0 f1 f2 f3 f4 f5 f6 f7 f8
   refine (gm lim _ A B C D coast (fr + 1) t1 t2 t3 t4 a L.length cap _).mono ?_
   rintro e w6 ⟨rfl, hx⟩
   have R6 := yz ((yy R5).kept hx)
   have C6 := yz ((yy C5).kept hx)
   have B6 := yz (aj (yy B5) hx)
   clear hx
   obtain ⟨r0, r1, r2, r3, r4, r5, r6, r7, r8, r9⟩ := ej (yy R6)
   obtain ⟨g0, g1, g2, g3, g4, g5, g6, g7, g8, g9⟩ := eB (yy R6)
   go_wp2_with fail
   clear r0 r1 r2 r3 r4 r5 r6 r7 r8 r9 g0 g1 g2 g3 g4 g5 g6 g7 g8 g9
   rw [yy HO]
   refine bodyPost_ret (v := .agg #[.slice a L.length cap, .int .i64 lim, .int .i64 1, .int .i64 t1, .int .i64 t2, .int .i64 t3, .int .i64 t4, .int .i64 0, .int .i64 (fr + 1), .int .i64 0]) ?_ rfl ⟨⟨a, cap, rfl, ?_⟩, ?_⟩
   ·refine du _ _ (w.heap.size + 1) _ lim 1 t1 t2 t3 t4 0 (fr + 1) 0 rfl (bY (t := 32) (bi (L := [.slice none 0 0, .int .i64 0, .int .i64 0, .int .i64 0, .int .i64 0, .int .i64 0, .int .i64 0, .int .i64 0, .int .i64 0, .int .i64 0]) (t := 32) ?_ rfl _ lim 1 t1 t2 t3 t4 0 (fr + 1) 0))
    exact yy R6
   ·refine aq.low (B := w.heap.size + 1 + 1) ?_ (by omega)
    iterate 10 (refine aq.far ?_ (Nat.lt_succ_self (w.heap.size + 1)) _ _)
    exact yy C6
   ·iterate 10 (refine aB ?_ (show w.heap.size ≤ w.heap.size + 1 by omega) _ _)
    exact yy B6
  ·skip
   obtain ⟨r0, r1, r2, r3, r4, r5, r6, r7, r8, r9⟩ := ej (yy R5)
   obtain ⟨g0, g1, g2, g3, g4, g5, g6, g7, g8, g9⟩ := eB (yy R5)
   by_cases hlc : lim < coast + 1
   ·have HO : Hid (bS ⟨L, lim, mode, A, B, C, D, coast, fr⟩ S = ⟨L, lim, 0, 0, 0, 0, 0, 0, fr + 1⟩) := yz (by rw [yy hO3 hneg h4]; unfold aQ; dsimp only; rw [if_neg h1, if_pos hlc]; rfl)
    go_wp2_with fail
    clear q0 q1 q2 q3 q4 q5 q6 q7 q8 s0 s1 s2 s3 s4 s5 s6 s7 s8 f0 f1 f2 f3 f4 f5 f6 f7 f8 r0 r1 r2 r3 r4 r5 r6 r7 r8 r9 g0 g1 g2 g3 g4 g5 g6 g7 g8 g9 j0 j1 j2 j3 j4
    refine (fC lim 2 A B C D (coast + 1) (fr + 1) a L.length cap _).mono ?_
    rintro e w6 ⟨rfl, hx⟩
    have R6 := yz ((((yy R5).other ⟨w2.heap.size, 2, none⟩ (.int .i64 2) (show w.heap.size + 1 ≠ w2.heap.size by omega)).other ⟨w2.heap.size, 7, none⟩ (.int .i64 (coast + 1)) (show w.heap.size + 1 ≠ w2.heap.size by omega)).kept hx)
    have T6 := yz ((((yy T5).set 2 (.int .i64 2)).set 7 (.int .i64 (coast + 1))).kept hx)
    have C6 := yz ((((yy C5).off (fun y e => Nat.ne_of_lt (hcb y e)) 2 (.int .i64 2)).off (fun y e => Nat.ne_of_lt (hcb y e)) 7 (.int .i64 (coast + 1))).kept hx)
    have B6 := yz (aj (aB (aB (yy B5) (show w.heap.size ≤ w2.heap.size by omega) 2 (.int .i64 2)) (show w.heap.size ≤ w2.heap.size by omega) 7 (.int .i64 (coast + 1))) hx)
    clear hx
    obtain ⟨s0, s1, s2, s3, s4, s5, s6, s7, s8⟩ := dM (yy T6)
    obtain ⟨f0, f1, f2, f3, f4, f5, f6, f7, f8⟩ := iQ (yy T6)
    obtain ⟨r0, r1, r2, r3, r4, r5, r6, r7, r8, r9⟩ := ej (yy R6)
    obtain ⟨g0, g1, g2, g3, g4, g5, g6, g7, g8, g9⟩ := eB (yy R6)
    go_wp2_with fail
    clear s0 s1 s2 s3 s4 s5 s6 s7 s8 f0 f1 f2 f3 f4 f5 f6 f7 f8 r0 r1 r2 r3 r4 r5 r6 r7 r8 r9 g0 g1 g2 g3 g4 g5 g6 g7 g8 g9
    rw [yy HO]
    refine bodyPost_ret (v := .agg #[.slice a L.length cap, .int .i64 lim, .int .i64 0, .int .i64 0, .int .i64 0, .int .i64 0, .int .i64 0, .int .i64 0, .int .i64 (fr + 1), .int .i64 0]) ?_ rfl ⟨⟨a, cap, rfl, ?_⟩, ?_⟩
    ·refine du _ _ (w.heap.size + 1) _ lim 0 0 0 0 0 0 (fr + 1) 0 rfl (bY (t := 32) (bi (L := [.slice none 0 0, .int .i64 0, .int .i64 0, .int .i64 0, .int .i64 0, .int .i64 0, .int .i64 0, .int .i64 0, .int .i64 0, .int .i64 0]) (t := 32) ?_ rfl _ lim 0 0 0 0 0 0 (fr + 1) 0))
     iterate 9 (refine Blk.other ?_ _ _ (show w.heap.size + 1 ≠ w2.heap.size by omega))
     exact yy R6
    ·refine aq.low (B := w.heap.size + 1 + 1) ?_ (by omega)
     iterate 10 (refine aq.far ?_ (Nat.lt_succ_self (w.heap.size + 1)) _ _)
     iterate 9 (refine aq.off ?_ (fun y e => Nat.ne_of_lt (hcb y e)) _ _)
     exact yy C6
    ·iterate 10 (refine aB ?_ (show w.heap.size ≤ w.heap.size + 1 by omega) _ _)
     iterate 9 (refine aB ?_ (show w.heap.size ≤ w2.heap.size by omega) _ _)
     exact yy B6
   ·have HO : Hid (bS ⟨L, lim, mode, A, B, C, D, coast, fr⟩ S = ⟨L, lim, 2, A, B, C, D, coast + 1, fr + 1⟩) := yz (by rw [yy hO3 hneg h4]; unfold aQ; dsimp only; rw [if_neg h1, if_neg hlc])
    go_wp2_with fail
    clear q0 q1 q2 q3 q4 q5 q6 q7 q8 s0 s1 s2 s3 s4 s5 s6 s7 s8 f0 f1 f2 f3 f4 f5 f6 f7 f8 r0 r1 r2 r3 r4 r5 r6 r7 r8 r9 g0 g1 g2 g3 g4 g5 g6 g7 g8 g9 j0 j1 j2 j3 j4
    rw [yy HO]
    refine bodyPost_ret (v := .agg #[.slice a L.length cap, .int .i64 lim, .int .i64 2, .int .i64 A, .int .i64 B, .int .i64 C, .int .i64 D, .int .i64 (coast + 1), .int .i64 (fr + 1), .int .i64 0]) ?_ rfl ⟨⟨a, cap, rfl, ?_⟩, ?_⟩
    ·refine du _ _ (w.heap.size + 1) _ lim 2 A B C D (coast + 1) (fr + 1) 0 rfl (bY (t := 32) (bi (L := [.slice none 0 0, .int .i64 0, .int .i64 0, .int .i64 0, .int .i64 0, .int .i64 0, .int .i64 0, .int .i64 0, .int .i64 0, .int .i64 0]) (t := 32) ?_ rfl _ lim 2 A B C D (coast + 1) (fr + 1) 0))
     iterate 2 (refine Blk.other ?_ _ _ (show w.heap.size + 1 ≠ w2.heap.size by omega))
     exact yy R5
    ·refine aq.low (B := w.heap.size + 1 + 1) ?_ (by omega)
     iterate 10 (refine aq.far ?_ (Nat.lt_succ_self (w.heap.size + 1)) _ _)
     iterate 2 (refine aq.off ?_ (fun y e => Nat.ne_of_lt (hcb y e)) _ _)
     exact yy C5
    ·iterate 10 (refine aB ?_ (show w.heap.size ≤ w.heap.size + 1 by omega) _ _)
     iterate 2 (refine aB ?_ (show w.heap.size ≤ w2.heap.size by omega) _ _)
     exact yy B5
 ·have htc := yy hTN h3
  clear cF4
  obtain ⟨r0, r1, r2, r3, r4, r5, r6, r7, r8, r9⟩ := ej (yy R4)
  obtain ⟨g0, g1, g2, g3, g4, g5, g6, g7, g8, g9⟩ := eB (yy R4)
  by_cases hlc : lim < coast + 1
  ·have HO : Hid (bS ⟨L, lim, mode, A, B, C, D, coast, fr⟩ S = ⟨L, lim, 0, 0, 0, 0, 0, 0, fr + 1⟩) := yz (by rw [yy hO3 hneg htc]; unfold aQ; dsimp only; rw [if_neg h1, if_pos hlc]; rfl)
   go_wp2_with fail
   clear q0 q1 q2 q3 q4 q5 q6 q7 q8 s0 s1 s2 s3 s4 s5 s6 s7 s8 f0 f1 f2 f3 f4 f5 f6 f7 f8 r0 r1 r2 r3 r4 r5 r6 r7 r8 r9 g0 g1 g2 g3 g4 g5 g6 g7 g8 g9 j0 j1 j2
   refine (fC lim 2 A B C D (coast + 1) (fr + 1) a L.length cap _).mono ?_
   rintro e w6 ⟨rfl, hx⟩
   have R6 := yz ((((yy R4).other ⟨w2.heap.size, 2, none⟩ (.int .i64 2) (show w.heap.size + 1 ≠ w2.heap.size by omega)).other ⟨w2.heap.size, 7, none⟩ (.int .i64 (coast + 1)) (show w.heap.size + 1 ≠ w2.heap.size by omega)).kept hx)
   have T6 := yz ((((yy T4).set 2 (.int .i64 2)).set 7 (.int .i64 (coast + 1))).kept hx)
   have C6 := yz ((((yy C4).off (fun y e => Nat.ne_of_lt (hcb y e)) 2 (.int .i64 2)).off (fun y e => Nat.ne_of_lt (hcb y e)) 7 (.int .i64 (coast + 1))).kept hx)
   have B6 := yz (aj (aB (aB (yy B4) (show w.heap.size ≤ w2.heap.size by omega) 2 (.int .i64 2)) (show w.heap.size ≤ w2.heap.size by omega) 7 (.int .i64 (coast + 1))) hx)
   clear hx
   obtain ⟨s0, s1, s2, s3, s4, s5, s6, s7, s8⟩ := dM (yy T6)
   obtain ⟨f0, f1, f2, f3, f4, f5, f6, f7, f8⟩ := iQ (yy T6)
   obtain ⟨r0, r1, r2, r3, r4, r5, r6, r7, r8, r9⟩ := ej (yy R6)
   obtain ⟨g0, g1, g2, g3, g4, g5, g6, g7, g8, g9⟩ := eB (yy R6)
   go_wp2_with fail
   clear s0 s1 s2 s3 s4 s5 s6 s7 s8 f0 f1 f2 f3 f4 f5 f6 f7 f8 r0 r1 r2 r3 r4 r5 r6 r7 r8 r9 g0 g1 g2 g3 g4 g5 g6 g7 g8 g9
   rw [yy HO]
   refine bodyPost_ret (v := .agg #[.slice a L.length cap, .int .i64 lim, .int .i64 0, .int .i64 0, .int .i64 0, .int .i64 0, .int .i64 0, .int .i64 0, .int .i64 (fr + 1), .int .i64 0]) ?_ rfl ⟨⟨a, cap, rfl, ?_⟩, ?_⟩
   ·refine du _ _ (w.heap.size + 1) _ lim 0 0 0 0 0 0 (fr + 1) 0 rfl (bY (t := 32) (bi (L := [.slice none 0 0, .int .i64 0, .int .i64 0, .int .i64 0, .int .i64 0, .int .i64 0, .int .i64 0, .int .i64 0, .int .i64 0, .int .i64 0]) (t := 32) ?_ rfl _ lim 0 0 0 0 0 0 (fr + 1) 0))
    iterate 9 (refine Blk.other ?_ _ _ (show w.heap.size + 1 ≠ w2.heap.size by omega))
    exact yy R6
   ·refine aq.low (B := w.heap.size + 1 + 1) ?_ (by omega)
    iterate 10 (refine aq.far ?_ (Nat.lt_succ_self (w.heap.size + 1)) _ _)
    iterate 9 (refine aq.off ?_ (fun y e => Nat.ne_of_lt (hcb y e)) _ _)
    exact yy C6
   ·iterate 10 (refine aB ?_ (show w.heap.size ≤ w.heap.size + 1 by omega) _ _)
    iterate 9 (refine aB ?_ (show w.heap.size ≤ w2.heap.size by omega) _ _)
    exact yy B6
  ·have HO : Hid (bS ⟨L, lim, mode, A, B, C, D, coast, fr⟩ S = ⟨L, lim, 2, A, B, C, D, coast + 1, fr + 1⟩) := yz (by rw [yy hO3 hneg htc]; unfold aQ; dsimp only; rw [if_neg h1, if_neg hlc])
   go_wp2_with fail
   clear q0 q1 q2 q3 q4 q5 q6 q7 q8 s0 s1 s2 s3 s4 s5 s6 s7 s8 f0 f1 f2 f3 f4 f5 f6 f7 f8 r0 r1 r2 r3 r4 r5 r6 r7 r8 r9 g0 g1 g2 g3 g4 g5 g6 g7 g8 g9 j0 j1 j2
   rw [yy HO]
   refine bodyPost_ret (v := .agg #[.slice a L.length cap, .int .i64 lim, .int .i64 2, .int .i64 A, .int .i64 B, .int .i64 C, .int .i64 D, .int .i64 (coast + 1), .int .i64 (fr + 1), .int .i64 0]) ?_ rfl ⟨⟨a, cap, rfl, ?_⟩, ?_⟩
   ·refine du _ _ (w.heap.size + 1) _ lim 2 A B C D (coast + 1) (fr + 1) 0 rfl (bY (t := 32) (bi (L := [.slice none 0 0, .int .i64 0, .int .i64 0, .int .i64 0, .int .i64 0, .int .i64 0, .int .i64 0, .int .i64 0, .int .i64 0, .int .i64 0]) (t := 32) ?_ rfl _ lim 2 A B C D (coast + 1) (fr + 1) 0))
    iterate 2 (refine Blk.other ?_ _ _ (show w.heap.size + 1 ≠ w2.heap.size by omega))
    exact yy R4
   ·refine aq.low (B := w.heap.size + 1 + 1) ?_ (by omega)
    iterate 10 (refine aq.far ?_ (Nat.lt_succ_self (w.heap.size + 1)) _ _)
    iterate 2 (refine aq.off ?_ (fun y e => Nat.ne_of_lt (hcb y e)) _ _)
    exact yy C4
   ·iterate 10 (refine aB ?_ (show w.heap.size ≤ w.heap.size + 1 by omega) _ _)
    iterate 2 (refine aB ?_ (show w.heap.size ≤ w2.heap.size by omega) _ _)
    exact yy B4
end
end Go.Proofs.YtgiodlllokdcdaaGreatDoor
