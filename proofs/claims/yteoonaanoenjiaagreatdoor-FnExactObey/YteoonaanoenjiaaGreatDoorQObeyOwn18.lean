/- Several texts in one: ModJ, ModI, ModK, ModQ, ModF. -/
import Derived.Test.YteoonaanoenjiaaGreatDoorQObeyOwn17
namespace Go.Proofs.YteoonaanoenjiaaGreatDoor
open Go.RowKit Go.Sort
set_option linter.unusedVariables false
theorem res_sreset (T : Array Value) (X : World) (b : Nat) (v : Value) (lim mode A B C D coast fr code : Int) (hT : T.getD 2 undef = .pointer (some ⟨b, 0, none⟩)) (h : TkO X b v lim mode A B C D coast fr code) : (results Tryz.f62 T).run Tryz.prog X = .ok (.agg #[v, .int .i64 lim, .int .i64 mode, .int .i64 A, .int .i64 B, .int .i64 C, .int .i64 D, .int .i64 coast, .int .i64 fr, .int .i64 code]) X := by
  obtain ⟨⟨h0, h1, h2, h3, h4, h5, h6, h7, h8⟩, h9⟩ := h
  simp only [Array.getD_eq_getD_getElem?] at hT
  simp [results, Tryz.results62, go_sem, hT, h0, h1, h2, h3, h4, h5, h6, h7, h8, h9]
theorem res_ireset (T : Array Value) (X : World) (b : Nat) (v : Value) (lim mode A B C D coast fr code : Int) (hT : T.getD 2 undef = .pointer (some ⟨b, 0, none⟩)) (h : TkO X b v lim mode A B C D coast fr code) : (results Tryz.f69 T).run Tryz.prog X = .ok (.agg #[v, .int .i64 lim, .int .i64 mode, .int .i64 A, .int .i64 B, .int .i64 C, .int .i64 D, .int .i64 coast, .int .i64 fr, .int .i64 code]) X := by
  obtain ⟨⟨h0, h1, h2, h3, h4, h5, h6, h7, h8⟩, h9⟩ := h
  simp only [Array.getD_eq_getD_getElem?] at hT
  simp [results, Tryz.results69, go_sem, hT, h0, h1, h2, h3, h4, h5, h6, h7, h8, h9]
def OutT (w' : World) (B : Nat) (t : Tk) (code : Int) (e : Ending) : Prop := ∃ a cap, e = .returned (.agg #[.slice a t.L.length cap, .int .i64 t.lim, .int .i64 t.mode, .int .i64 t.A, .int .i64 t.B, .int .i64 t.C, .int .i64 t.D, .int .i64 t.coast, .int .i64 t.fr, .int .i64 code]) ∧ Copied w' B t.L a cap
theorem copied_nil (w : World) (B : Nat) : Copied w B [] none 0 := ⟨rfl, .inl ⟨rfl, rfl⟩⟩
theorem outT_ill (w : World) (B : Nat) (code : Int) : OutT w B zeroK code (.returned (.agg #[.slice none 0 0, .int .i64 0, .int .i64 0, .int .i64 0, .int .i64 0, .int .i64 0, .int .i64 0, .int .i64 0, .int .i64 0, .int .i64 code])) := ⟨none, 0, rfl, copied_nil w B⟩
def resetT (t : Tk) : Tk := if trackB t = true then lostT t else zeroK
def resetC (t : Tk) : Int := if trackB t = true then 0 else 1
theorem TkO.far {w : World} {b : Nat} {v : Value} {lim mode A B C D coast fr code : Int} (h : TkO w b v lim mode A B C D coast fr code) {b' : Nat} (hne : b ≠ b') (o : Nat) (x : Value) : TkO (w.setCell ⟨b', o, none⟩ x) b v lim mode A B C D coast fr code := ⟨h.1.far hne o x, by rw [World.cell?_setCell_far _ _ _ _ (Ne.symm hne)]; exact h.2⟩
theorem TkO.lt {w : World} {b : Nat} {v : Value} {lim mode A B C D coast fr code : Int} (h : TkO w b v lim mode A B C D coast fr code) : b < w.heap.size := h.1.lt
set_option maxHeartbeats 2000000 in
set_option maxRecDepth 100000 in
theorem specReset_any (L : List St) (lim mode A B C D coast fr : Int) (ad : Option Addr) (c : Nat) (w : World) (hn : L.length ≤ 1048576) (hS : Stars w ad L L.length) :
    Calls Tryz.prog 62 #[.agg #[.slice ad L.length c, .int .i64 lim, .int .i64 mode, .int .i64 A, .int .i64 B, .int .i64 C, .int .i64 D, .int .i64 coast, .int .i64 fr]] w fun e w' => OutT w' w.heap.size (resetT ⟨L, lim, mode, A, B, C, D, coast, fr⟩) (resetC ⟨L, lim, mode, A, B, C, D, coast, fr⟩) e ∧ Below w.heap.size w w' := by
  have B0 := below2 w (.cells #[.slice ad L.length c, .int .i64 lim, .int .i64 mode, .int .i64 A, .int .i64 B, .int .i64 C, .int .i64 D, .int .i64 coast, .int .i64 fr] 37) (.cells #[.slice none 0 0, .int .i64 0, .int .i64 0, .int .i64 0, .int .i64 0, .int .i64 0, .int .i64 0, .int .i64 0, .int .i64 0, .int .i64 0] 39)
  have T0 := (tkAt_new w (.slice ad L.length c) lim mode A B C D coast fr 37).kept (below1 _ (.cells #[.slice none 0 0, .int .i64 0, .int .i64 0, .int .i64 0, .int .i64 0, .int .i64 0, .int .i64 0, .int .i64 0, .int .i64 0, .int .i64 0] 39))
  have R0 := (by simpa using tkO_new (w.alloc (.cells #[.slice ad L.length c, .int .i64 lim, .int .i64 mode, .int .i64 A, .int .i64 B, .int .i64 C, .int .i64 D, .int .i64 coast, .int .i64 fr] 37)) (.slice none 0 0) 0 0 0 0 0 0 0 0 0 39 : TkO ((w.alloc (.cells #[.slice ad L.length c, .int .i64 lim, .int .i64 mode, .int .i64 A, .int .i64 B, .int .i64 C, .int .i64 D, .int .i64 coast, .int .i64 fr] 37)).alloc (.cells #[.slice none 0 0, .int .i64 0, .int .i64 0, .int .i64 0, .int .i64 0, .int .i64 0, .int .i64 0, .int .i64 0, .int .i64 0, .int .i64 0] 39)) (w.heap.size + 1) (.slice none 0 0) 0 0 0 0 0 0 0 0 0)
  have G0 := (by simpa using freeK_new (w.alloc (.cells #[.slice ad L.length c, .int .i64 lim, .int .i64 mode, .int .i64 A, .int .i64 B, .int .i64 C, .int .i64 D, .int .i64 coast, .int .i64 fr] 37)) #[.slice none 0 0, .int .i64 0, .int .i64 0, .int .i64 0, .int .i64 0, .int .i64 0, .int .i64 0, .int .i64 0, .int .i64 0, .int .i64 0] 39 : FreeK ((w.alloc (.cells #[.slice ad L.length c, .int .i64 lim, .int .i64 mode, .int .i64 A, .int .i64 B, .int .i64 C, .int .i64 D, .int .i64 coast, .int .i64 fr] 37)).alloc (.cells #[.slice none 0 0, .int .i64 0, .int .i64 0, .int .i64 0, .int .i64 0, .int .i64 0, .int .i64 0, .int .i64 0, .int .i64 0, .int .i64 0] 39)) (w.heap.size + 1))
  have hsz : w.heap.size + 2 ≤ ((w.alloc (.cells #[.slice ad L.length c, .int .i64 lim, .int .i64 mode, .int .i64 A, .int .i64 B, .int .i64 C, .int .i64 D, .int .i64 coast, .int .i64 fr] 37)).alloc (.cells #[.slice none 0 0, .int .i64 0, .int .i64 0, .int .i64 0, .int .i64 0, .int .i64 0, .int .i64 0, .int .i64 0, .int .i64 0, .int .i64 0] 39)).heap.size := by simp
  have S0 := hS.kept B0
  have cR := yz (fun W h => specTrack_any L lim mode A B C D coast fr ad c W hn h)
  have cC := yz (fun W h => l07Copy_any L lim mode A B C D coast fr ad c W hn h)
  have HB := yz B0
  have HT := yz T0
  have HR := yz R0
  have HG := yz G0
  have HS := yz S0
  clear B0 T0 R0 G0 S0 hS
  go_enter Tryz.func62, Tryz.ntmps62
  go_wp2_with fail
  generalize (w.alloc (.cells #[.slice ad L.length c, .int .i64 lim, .int .i64 mode, .int .i64 A, .int .i64 B, .int .i64 C, .int .i64 D, .int .i64 coast, .int .i64 fr] 37)).alloc (.cells #[.slice none 0 0, .int .i64 0, .int .i64 0, .int .i64 0, .int .i64 0, .int .i64 0, .int .i64 0, .int .i64 0, .int .i64 0, .int .i64 0] 39) = W at *
  refine (yx cR _ (yx HS)).mono ?_
  rintro e w1 ⟨rfl, hx⟩
  have B1 := yz (below_call (yx HB) hx)
  have T1 := yz ((yx HT).kept hx)
  have R1 := yz ((yx HR).kept hx)
  have G1 := yz ((yx HG).kept (yx HR).lt hx)
  have S1 := yz ((yx HS).kept hx)
  have hsz1 : w.heap.size + 2 ≤ w1.heap.size := Nat.le_trans hsz hx.size
  clear hx HB HT HR HG HS hsz cR
  cases hk : trackB ⟨L, lim, mode, A, B, C, D, coast, fr⟩
  · have HO1 : Hid (resetT ⟨L, lim, mode, A, B, C, D, coast, fr⟩ = zeroK) := yz (by unfold resetT; rw [hk]; rfl)
    have HO2 : Hid (resetC ⟨L, lim, mode, A, B, C, D, coast, fr⟩ = 1) := yz (by unfold resetC; rw [hk]; rfl)
    go_wp2_with fail
    refine (l07Ill_any 1 _).mono ?_
    rintro e w2 ⟨rfl, hx⟩
    have B2 := yz (below_call (yx B1) hx)
    have R2 := yz ((yx R1).kept hx)
    have G2 := yz ((yx G1).kept (yx R1).lt hx)
    clear hx B1 R1 G1
    obtain ⟨⟨r0, r1, r2, r3, r4, r5, r6, r7, r8⟩, r9⟩ := yx R2
    have g0 := yx G2 0
    have g1 := yx G2 1
    have g2 := yx G2 2
    have g3 := yx G2 3
    have g4 := yx G2 4
    have g5 := yx G2 5
    have g6 := yx G2 6
    have g7 := yx G2 7
    have g8 := yx G2 8
    have g9 := yx G2 9
    go_wp2_with fail
    clear r0 r1 r2 r3 r4 r5 r6 r7 r8 r9 g0 g1 g2 g3 g4 g5 g6 g7 g8 g9
    refine bodyPost_ret (v := .agg #[.slice none 0 0, .int .i64 0, .int .i64 0, .int .i64 0, .int .i64 0, .int .i64 0, .int .i64 0, .int .i64 0, .int .i64 0, .int .i64 1]) ?_ rfl ⟨?_, ?_⟩
    · refine res_sreset _ _ (w.heap.size + 1) _ 0 0 0 0 0 0 0 0 1 rfl ?_
      exact tkO_set10 (yx R2) _ _ _ _ _ _ _ _ _ _
    · rw [yx HO1, yx HO2]
      exact outT_ill _ _ _
    · iterate 10 (refine belowSet ?_ (show w.heap.size ≤ w.heap.size + 1 by omega) _ _)
      exact yx B2
  · have HO1 : Hid (resetT ⟨L, lim, mode, A, B, C, D, coast, fr⟩ = ⟨L, lim, 0, 0, 0, 0, 0, 0, fr⟩) := yz (by unfold resetT; rw [hk]; rfl)
    have HO2 : Hid (resetC ⟨L, lim, mode, A, B, C, D, coast, fr⟩ = 0) := yz (by unfold resetC; rw [hk]; rfl)
    clear hk
    obtain ⟨s0, s1, s2, s3, s4, s5, s6, s7, s8⟩ := yx T1
    go_wp2_with fail
    clear s0 s1 s2 s3 s4 s5 s6 s7 s8
    refine (yx cC _ (yx S1)).mono ?_
    rintro e w2 ⟨a, cap, rfl, hC, hx⟩
    have B2 := yz (below_call (yx B1) hx)
    have R2 := yz ((yx R1).kept hx)
    have G2 := yz ((yx G1).kept (yx R1).lt hx)
    have C2 := yz (hC.low (B' := w.heap.size + 2) (by omega))
    clear hx hC B1 R1 G1 T1 S1 cC
    go_wp2_with fail
    refine (l07Lost_any lim mode A B C D coast fr a L.length cap _).mono ?_
    rintro e w3 ⟨rfl, hx⟩
    have B3 := yz (below_call (yx B2) hx)
    have R3 := yz ((yx R2).kept hx)
    have G3 := yz ((yx G2).kept (yx R2).lt hx)
    have C3 := yz ((yx C2).kept hx)
    clear hx B2 R2 G2 C2
    obtain ⟨⟨r0, r1, r2, r3, r4, r5, r6, r7, r8⟩, r9⟩ := yx R3
    have g0 := yx G3 0
    have g1 := yx G3 1
    have g2 := yx G3 2
    have g3 := yx G3 3
    have g4 := yx G3 4
    have g5 := yx G3 5
    have g6 := yx G3 6
    have g7 := yx G3 7
    have g8 := yx G3 8
    have g9 := yx G3 9
    go_wp2_with fail
    clear r0 r1 r2 r3 r4 r5 r6 r7 r8 r9 g0 g1 g2 g3 g4 g5 g6 g7 g8 g9
    refine bodyPost_ret (v := .agg #[.slice a L.length cap, .int .i64 lim, .int .i64 0, .int .i64 0, .int .i64 0, .int .i64 0, .int .i64 0, .int .i64 0, .int .i64 fr, .int .i64 0]) ?_ rfl ⟨?_, ?_⟩
    · refine res_sreset _ _ (w.heap.size + 1) _ lim 0 0 0 0 0 0 fr 0 rfl ?_
      exact tkO_set10 (yx R3) _ _ _ _ _ _ _ _ _ _
    · rw [yx HO1, yx HO2]
      refine ⟨a, cap, rfl, ?_⟩
      refine Copied.low (B := w.heap.size + 2) ?_ (by omega)
      iterate 10 (refine Copied.far ?_ (show w.heap.size + 1 < w.heap.size + 2 by omega) _ _)
      exact yx C3
    · iterate 10 (refine belowSet ?_ (show w.heap.size ≤ w.heap.size + 1 by omega) _ _)
      exact yx B3
end Go.Proofs.YteoonaanoenjiaaGreatDoor
namespace Go.Proofs.YteoonaanoenjiaaGreatDoor
open Go.RowKit Go.Sort
set_option linter.unusedVariables false
set_option linter.unusedSimpArgs false
set_option maxHeartbeats 8000000 in
set_option maxRecDepth 100000 in
theorem workOf_any (L : List St) (lim mode A B C D coast fr : Int) (ad : Option Addr) (c : Nat) (w : World) (hn : L.length ≤ 1048576) (hS : Stars w ad L L.length) :
    Calls Tryz.prog 49 #[.agg #[.slice ad L.length c, .int .i64 lim, .int .i64 mode, .int .i64 A, .int .i64 B, .int .i64 C, .int .i64 D, .int .i64 coast, .int .i64 fr]] w fun e w' => ∃ a cap, e = .returned (.agg #[.slice a L.length cap, .int .i64 lim, .int .i64 mode, .int .i64 A, .int .i64 B, .int .i64 C, .int .i64 D, .int .i64 coast, .int .i64 fr]) ∧ Copied w' (w.heap.size + 2) L a cap ∧ Below w.heap.size w w' := by
  have B0 := below2 w (.cells #[.slice ad L.length c, .int .i64 lim, .int .i64 mode, .int .i64 A, .int .i64 B, .int .i64 C, .int .i64 D, .int .i64 coast, .int .i64 fr] 37) (.cells #[.slice none 0 0, .int .i64 0, .int .i64 0, .int .i64 0, .int .i64 0, .int .i64 0, .int .i64 0, .int .i64 0, .int .i64 0] 92)
  have S1 := yz (hS.kept B0)
  have S0 := (tkAt_new w (.slice ad L.length c) lim mode A B C D coast fr 37).kept (below1 _ (.cells #[.slice none 0 0, .int .i64 0, .int .i64 0, .int .i64 0, .int .i64 0, .int .i64 0, .int .i64 0, .int .i64 0, .int .i64 0] 92))
  have R0 := (by simpa using tkAt_new (w.alloc (.cells #[.slice ad L.length c, .int .i64 lim, .int .i64 mode, .int .i64 A, .int .i64 B, .int .i64 C, .int .i64 D, .int .i64 coast, .int .i64 fr] 37)) (.slice none 0 0) 0 0 0 0 0 0 0 0 92 : TkAt ((w.alloc (.cells #[.slice ad L.length c, .int .i64 lim, .int .i64 mode, .int .i64 A, .int .i64 B, .int .i64 C, .int .i64 D, .int .i64 coast, .int .i64 fr] 37)).alloc (.cells #[.slice none 0 0, .int .i64 0, .int .i64 0, .int .i64 0, .int .i64 0, .int .i64 0, .int .i64 0, .int .i64 0, .int .i64 0] 92)) (w.heap.size + 1) (.slice none 0 0) 0 0 0 0 0 0 0 0)
  have G0 := (by simpa using freeK_new (w.alloc (.cells #[.slice ad L.length c, .int .i64 lim, .int .i64 mode, .int .i64 A, .int .i64 B, .int .i64 C, .int .i64 D, .int .i64 coast, .int .i64 fr] 37)) #[.slice none 0 0, .int .i64 0, .int .i64 0, .int .i64 0, .int .i64 0, .int .i64 0, .int .i64 0, .int .i64 0, .int .i64 0] 92 : FreeK ((w.alloc (.cells #[.slice ad L.length c, .int .i64 lim, .int .i64 mode, .int .i64 A, .int .i64 B, .int .i64 C, .int .i64 D, .int .i64 coast, .int .i64 fr] 37)).alloc (.cells #[.slice none 0 0, .int .i64 0, .int .i64 0, .int .i64 0, .int .i64 0, .int .i64 0, .int .i64 0, .int .i64 0, .int .i64 0] 92)) (w.heap.size + 1))
  have HB := yz B0
  have HS := yz S0
  have HR := yz R0
  have HG := yz G0
  have hsz : ((w.alloc (.cells #[.slice ad L.length c, .int .i64 lim, .int .i64 mode, .int .i64 A, .int .i64 B, .int .i64 C, .int .i64 D, .int .i64 coast, .int .i64 fr] 37)).alloc (.cells #[.slice none 0 0, .int .i64 0, .int .i64 0, .int .i64 0, .int .i64 0, .int .i64 0, .int .i64 0, .int .i64 0, .int .i64 0] 92)).heap.size = w.heap.size + 2 := by simp
  clear B0 S0 R0 G0 hS
  obtain ⟨i0, hinf, hz0, hz1, hz2⟩ := info_parts info_star
  go_enter Tryz.func49, Tryz.ntmps49
  go_wp2_with fail
  generalize (w.alloc (.cells #[.slice ad L.length c, .int .i64 lim, .int .i64 mode, .int .i64 A, .int .i64 B, .int .i64 C, .int .i64 D, .int .i64 coast, .int .i64 fr] 37)).alloc (.cells #[.slice none 0 0, .int .i64 0, .int .i64 0, .int .i64 0, .int .i64 0, .int .i64 0, .int .i64 0, .int .i64 0, .int .i64 0] 92) = W at *
  obtain ⟨s0, s1, s2, s3, s4, s5, s6, s7, s8⟩ := yx HS
  refine wp_region_held_drew (S := (fun w' => w'.cell? ⟨w.heap.size, 0, none⟩ = some (.slice ad L.length c) ∧ w'.cell? ⟨w.heap.size, 1, none⟩ = some (.int .i64 lim) ∧ w'.cell? ⟨w.heap.size, 2, none⟩ = some (.int .i64 mode) ∧ w'.cell? ⟨w.heap.size, 3, none⟩ = some (.int .i64 A) ∧ w'.cell? ⟨w.heap.size, 4, none⟩ = some (.int .i64 B) ∧ w'.cell? ⟨w.heap.size, 5, none⟩ = some (.int .i64 C) ∧ w'.cell? ⟨w.heap.size, 6, none⟩ = some (.int .i64 D) ∧ w'.cell? ⟨w.heap.size, 7, none⟩ = some (.int .i64 coast) ∧ w'.cell? ⟨w.heap.size, 8, none⟩ = some (.int .i64 fr))) (by kernel_rfl) ?_ (fun hHeld => ?_)
  · exact ⟨s0, s1, s2, s3, s4, s5, s6, s7, s8⟩
  refine wpAnyH_take (i := 0) (v := ?_) rfl (by kernel_rfl) (by kernel_rfl) (by kernel_rfl) (fun _ _ _ h => h) (Or.inl ⟨by rfl, ?_⟩) (by assumption) ?_
  rotate_left
  · intro W0 hSw; (try dsimp only at hSw); go_simp <;> with_reducible rfl
  try simp only [Act.put, List.setIfInBounds_toArray, List.set_cons_zero, List.set_cons_succ]
  refine wpAnyH_take (i := 1) (v := ?_) rfl (by kernel_rfl) (by kernel_rfl) (by kernel_rfl) (fun _ _ _ h => h) (Or.inl ⟨by rfl, ?_⟩) (by assumption) ?_
  rotate_left
  · intro W0 hSw; (try dsimp only at hSw); go_simp <;> with_reducible rfl
  try simp only [Act.put, List.setIfInBounds_toArray, List.set_cons_zero, List.set_cons_succ]
  refine wpAnyH_take (i := 4) (v := ?_) rfl (by kernel_rfl) (by kernel_rfl) (by kernel_rfl) (fun _ _ _ h => h) (Or.inl ⟨by rfl, ?_⟩) (by assumption) ?_
  rotate_left
  · intro W0 hSw; (try dsimp only at hSw); go_simp <;> with_reducible rfl
  try simp only [Act.put, List.setIfInBounds_toArray, List.set_cons_zero, List.set_cons_succ]
  refine wpAnyH_take (i := 5) (v := ?_) rfl (by kernel_rfl) (by kernel_rfl) (by kernel_rfl) (fun _ _ _ h => h) (Or.inl ⟨by rfl, ?_⟩) (by assumption) ?_
  rotate_left
  · intro W0 hSw; (try dsimp only at hSw); go_simp <;> with_reducible rfl
  try simp only [Act.put, List.setIfInBounds_toArray, List.set_cons_zero, List.set_cons_succ]
  refine wpAnyH_take (i := 6) (v := ?_) rfl (by kernel_rfl) (by kernel_rfl) (by kernel_rfl) (fun _ _ _ h => h) (Or.inl ⟨by rfl, ?_⟩) (by assumption) ?_
  rotate_left
  · intro W0 hSw; (try dsimp only at hSw); go_simp <;> with_reducible rfl
  try simp only [Act.put, List.setIfInBounds_toArray, List.set_cons_zero, List.set_cons_succ]
  refine wpAnyH_take (i := 7) (v := ?_) rfl (by kernel_rfl) (by kernel_rfl) (by kernel_rfl) (fun _ _ _ h => h) (Or.inl ⟨by rfl, ?_⟩) (by assumption) ?_
  rotate_left
  · intro W0 hSw; (try dsimp only at hSw); go_simp <;> with_reducible rfl
  try simp only [Act.put, List.setIfInBounds_toArray, List.set_cons_zero, List.set_cons_succ]
  refine wpAnyH_take (i := 8) (v := ?_) rfl (by kernel_rfl) (by kernel_rfl) (by kernel_rfl) (fun _ _ _ h => h) (Or.inl ⟨by rfl, ?_⟩) (by assumption) ?_
  rotate_left
  · intro W0 hSw; (try dsimp only at hSw); go_simp <;> with_reducible rfl
  try simp only [Act.put, List.setIfInBounds_toArray, List.set_cons_zero, List.set_cons_succ]
  refine wpAnyH_take (i := 9) (v := ?_) rfl (by kernel_rfl) (by kernel_rfl) (by kernel_rfl) (fun _ _ _ h => h) (Or.inl ⟨by rfl, ?_⟩) (by assumption) ?_
  rotate_left
  · intro W0 hSw; (try dsimp only at hSw); go_simp <;> with_reducible rfl
  try simp only [Act.put, List.setIfInBounds_toArray, List.set_cons_zero, List.set_cons_succ]
  refine wpAnyH_take (i := 10) (v := ?_) rfl (by kernel_rfl) (by kernel_rfl) (by kernel_rfl) (fun _ _ _ h => h) (Or.inl ⟨by rfl, ?_⟩) (by assumption) ?_
  rotate_left
  · intro W0 hSw; (try dsimp only at hSw); go_simp <;> with_reducible rfl
  try simp only [Act.put, List.setIfInBounds_toArray, List.set_cons_zero, List.set_cons_succ]
  refine wpAnyH_take (i := 11) (v := ?_) rfl (by kernel_rfl) (by kernel_rfl) (by kernel_rfl) (fun _ _ _ h => h) (Or.inl ⟨by rfl, ?_⟩) (by assumption) ?_
  rotate_left
  · intro W0 hSw; (try dsimp only at hSw); go_simp <;> with_reducible rfl
  try simp only [Act.put, List.setIfInBounds_toArray, List.set_cons_zero, List.set_cons_succ]
  refine wpAnyH_take (i := 12) (v := ?_) rfl (by kernel_rfl) (by kernel_rfl) (by kernel_rfl) (fun _ _ _ h => h) (Or.inl ⟨by rfl, ?_⟩) (by assumption) ?_
  rotate_left
  · intro W0 hSw; (try dsimp only at hSw); go_simp <;> with_reducible rfl
  try simp only [Act.put, List.setIfInBounds_toArray, List.set_cons_zero, List.set_cons_succ]
  refine wpAnyH_take (i := 13) (v := ?_) rfl (by kernel_rfl) (by kernel_rfl) (by kernel_rfl) (fun _ _ _ h => h) (Or.inl ⟨by rfl, ?_⟩) (by assumption) ?_
  rotate_left
  · intro W0 hSw; (try dsimp only at hSw); go_simp <;> with_reducible rfl
  try simp only [Act.put, List.setIfInBounds_toArray, List.set_cons_zero, List.set_cons_succ]
  have S1d : Stars W.drew ad L L.length := (yx S1).kept (Below.refl _ _).drew
  have HBd : Below w.heap.size w W.drew := (yx HB).drew
  have R0d : TkAt W.drew (w.heap.size + 1) (.slice none 0 0) 0 0 0 0 0 0 0 0 := yx HR
  have G0d : FreeK W.drew (w.heap.size + 1) := yx HG
  have hszd : W.drew.heap.size = w.heap.size + 2 := hsz
  refine wpAnyH_ready (rs := [2]) (by kernel_rfl) (by simp) ?_
  refine AllReadyH.cons rfl (fun K hK => ?_) AllReadyH.nil
  have hnil : W.drew.ownsRow (w.heap.size + 2) 113 4 (.slice none 0 0) 0 [] := World.ownsRow_nil _ _ _ _
  have hcells := stars_cellsO S1d
  refine (if_pos (by kernel_rfl)).mpr ?_
  simp only [List.getElem_toArray, List.getElem_cons_succ, List.getElem_cons_zero]
  generalize hA : ({ tmps := _, defers := _ } : Act) = aa
  have hf0 : aa.eval (Operand.const (Value.slice none 0 0)) = .slice none 0 0 := by subst hA; simp [go_sem]
  have hf1 : aa.eval (Operand.tmp 4) = .slice ad L.length c := by subst hA; simp [go_sem]
  refine wp_append_ownO W.drew (Operand.const (Value.slice none 0 0)) (Operand.tmp 4) 34 rfl (w.heap.size + 2) 113 i0 (.agg #[.int .i64 0, .int .i64 0, .int .i64 0, .int .i64 0]) 4 32 Tryz.underlying34 hinf hz0 hz1 hz2 rfl (by decide) (.slice none 0 0) 0 [] hf0 hnil ad L.length c (flatSt L) hf1 (flatSt_len L) (stars_none S1d) hcells (fun u hu => flatSt_one hu) ?d1 ?d2 ?d3 ?_
  case d1 => have : 1048576 ≤ maxLen := by decide +kernel
             omega
  case d2 => omega
  case d3 => omega
  intro v' w1 ho hg
  subst hA
  rw [Nat.zero_add, List.nil_append] at ho
  obtain ⟨a, cap, rfl, hC⟩ := copied_form ho
  have B1 := yz (belowR HBd hg HBd.size (fun g e => by simp [Value.ownBlock] at e))
  have S2 : TkAt w1 w.heap.size (.slice ad L.length c) lim mode A B C D coast fr := TkAt.grown (w := W.drew) (yx HS) hg (by simp [Value.ownBlock])
  have R2 := yz (R0d.grown hg (by simp [Value.ownBlock]))
  have G2 := yz (G0d.grown R0d.lt hg (by simp [Value.ownBlock]))
  have C1 := yz hC
  clear ho hg hC s0 s1 s2 s3 s4 s5 s6 s7 s8
  obtain ⟨s0, s1, s2, s3, s4, s5, s6, s7, s8⟩ := S2
  refine hK.out _ _ ?_ (fun hHeld1 => ?_)
  · exact ⟨s0, s1, s2, s3, s4, s5, s6, s7, s8⟩
  clear hK K hHeld hf0 hf1 hcells hnil
  try simp only [Act.put, List.setIfInBounds_toArray, List.set_cons_zero, List.set_cons_succ]
  refine wpAnyH_take (i := 3) (v := ?_) rfl (by kernel_rfl) (by kernel_rfl) (by kernel_rfl) (fun _ _ _ h => h) (Or.inl ⟨by rfl, ?_⟩) (by assumption) ?_
  rotate_left
  · intro W0 hSw; (try dsimp only at hSw); go_simp <;> with_reducible rfl
  try simp only [Act.put, List.setIfInBounds_toArray, List.set_cons_zero, List.set_cons_succ]
  refine wpAnyH_take (i := 14) (v := ?_) rfl (by kernel_rfl) (by kernel_rfl) (by kernel_rfl) (fun _ _ _ h => h) (Or.inl ⟨by rfl, ?_⟩) (by assumption) ?_
  rotate_left
  · intro W0 hSw; (try dsimp only at hSw); go_simp <;> with_reducible rfl
  try simp only [Act.put, List.setIfInBounds_toArray, List.set_cons_zero, List.set_cons_succ]
  obtain ⟨r0, r1, r2, r3, r4, r5, r6, r7, r8⟩ := yx R2
  have g0 := yx G2 0
  have g1 := yx G2 1
  have g2 := yx G2 2
  have g3 := yx G2 3
  have g4 := yx G2 4
  have g5 := yx G2 5
  have g6 := yx G2 6
  have g7 := yx G2 7
  have g8 := yx G2 8
  refine wpAnyH_ready (rs := [15]) (by kernel_rfl) (by simp) ?_
  refine AllReadyH.cons rfl (fun K hK => ?_) AllReadyH.nil
  go_simp
  have S3 : Hid (TkAt w1 w.heap.size (.slice ad L.length c) lim mode A B C D coast fr) := yz ⟨s0, s1, s2, s3, s4, s5, s6, s7, s8⟩
  clear s0 s1 s2 s3 s4 s5 s6 s7 s8 r0 r1 r2 r3 r4 r5 r6 r7 r8 g0 g1 g2 g3 g4 g5 g6 g7 g8
  refine hK.out _ _ ?_ (fun hHeld2 => ?_)
  · show TkAt _ w.heap.size (.slice ad L.length c) lim mode A B C D coast fr
    iterate 9 (refine TkAt.far ?_ (show w.heap.size ≠ w.heap.size + 1 by omega) _ _)
    exact yx S3
  clear hK K hHeld1
  refine wpAnyH_done (by kernel_rfl) ?_ _
  clear hHeld2
  go_wp2_with fail
  refine bodyPost_ret (v := .agg #[.slice a L.length cap, .int .i64 lim, .int .i64 mode, .int .i64 A, .int .i64 B, .int .i64 C, .int .i64 D, .int .i64 coast, .int .i64 fr]) ?_ rfl ⟨a, cap, rfl, ?_, ?_⟩
  · refine res_workOf _ _ (w.heap.size + 1) _ lim mode A B C D coast fr rfl ?_
    exact tkAt_set9 (lim0 := 0) (mode0 := 0) (A0 := 0) (B0 := 0) (C0 := 0) (D0 := 0) (coast0 := 0) (fr0 := 0) (u := .slice none 0 0) (yx R2) _ lim mode A B C D coast fr
  · iterate 9 (refine Copied.far ?_ (show w.heap.size + 1 < w.heap.size + 2 by omega) _ _)
    exact yx C1
  · iterate 9 (refine belowSet ?_ (show w.heap.size ≤ w.heap.size + 1 by omega) _ _)
    exact yx B1
end Go.Proofs.YteoonaanoenjiaaGreatDoor
namespace Go.Proofs.YteoonaanoenjiaaGreatDoor
open Go.RowKit Go.Sort
set_option linter.unusedVariables false
set_option maxHeartbeats 2000000 in
set_option maxRecDepth 100000 in
theorem implReset_any (L : List St) (lim mode A B C D coast fr : Int) (ad : Option Addr) (c : Nat) (p : Addr) (w : World) (hn : L.length ≤ 1048576) (hcap : L.length ≤ c) (hc9 : c ≤ 9223372036854775807) (hE : ErrSky p w) (hS : Stars w ad L L.length) :
    Calls Tryz.prog 69 #[.agg #[.slice ad L.length c, .int .i64 lim, .int .i64 mode, .int .i64 A, .int .i64 B, .int .i64 C, .int .i64 D, .int .i64 coast, .int .i64 fr]] w fun e w' => OutT w' w.heap.size (resetT ⟨L, lim, mode, A, B, C, D, coast, fr⟩) (resetC ⟨L, lim, mode, A, B, C, D, coast, fr⟩) e ∧ Below w.heap.size w w' := by
  have B0 := below2 w (.cells #[.slice ad L.length c, .int .i64 lim, .int .i64 mode, .int .i64 A, .int .i64 B, .int .i64 C, .int .i64 D, .int .i64 coast, .int .i64 fr] 37) (.cells #[.slice none 0 0, .int .i64 0, .int .i64 0, .int .i64 0, .int .i64 0, .int .i64 0, .int .i64 0, .int .i64 0, .int .i64 0, .int .i64 0] 39)
  have T0 := (tkAt_new w (.slice ad L.length c) lim mode A B C D coast fr 37).kept (below1 _ (.cells #[.slice none 0 0, .int .i64 0, .int .i64 0, .int .i64 0, .int .i64 0, .int .i64 0, .int .i64 0, .int .i64 0, .int .i64 0, .int .i64 0] 39))
  have R0 := (by simpa using tkO_new (w.alloc (.cells #[.slice ad L.length c, .int .i64 lim, .int .i64 mode, .int .i64 A, .int .i64 B, .int .i64 C, .int .i64 D, .int .i64 coast, .int .i64 fr] 37)) (.slice none 0 0) 0 0 0 0 0 0 0 0 0 39 : TkO ((w.alloc (.cells #[.slice ad L.length c, .int .i64 lim, .int .i64 mode, .int .i64 A, .int .i64 B, .int .i64 C, .int .i64 D, .int .i64 coast, .int .i64 fr] 37)).alloc (.cells #[.slice none 0 0, .int .i64 0, .int .i64 0, .int .i64 0, .int .i64 0, .int .i64 0, .int .i64 0, .int .i64 0, .int .i64 0, .int .i64 0] 39)) (w.heap.size + 1) (.slice none 0 0) 0 0 0 0 0 0 0 0 0)
  have G0 := (by simpa using freeK_new (w.alloc (.cells #[.slice ad L.length c, .int .i64 lim, .int .i64 mode, .int .i64 A, .int .i64 B, .int .i64 C, .int .i64 D, .int .i64 coast, .int .i64 fr] 37)) #[.slice none 0 0, .int .i64 0, .int .i64 0, .int .i64 0, .int .i64 0, .int .i64 0, .int .i64 0, .int .i64 0, .int .i64 0, .int .i64 0] 39 : FreeK ((w.alloc (.cells #[.slice ad L.length c, .int .i64 lim, .int .i64 mode, .int .i64 A, .int .i64 B, .int .i64 C, .int .i64 D, .int .i64 coast, .int .i64 fr] 37)).alloc (.cells #[.slice none 0 0, .int .i64 0, .int .i64 0, .int .i64 0, .int .i64 0, .int .i64 0, .int .i64 0, .int .i64 0, .int .i64 0, .int .i64 0] 39)) (w.heap.size + 1))
  have hsz : w.heap.size + 2 ≤ ((w.alloc (.cells #[.slice ad L.length c, .int .i64 lim, .int .i64 mode, .int .i64 A, .int .i64 B, .int .i64 C, .int .i64 D, .int .i64 coast, .int .i64 fr] 37)).alloc (.cells #[.slice none 0 0, .int .i64 0, .int .i64 0, .int .i64 0, .int .i64 0, .int .i64 0, .int .i64 0, .int .i64 0, .int .i64 0, .int .i64 0] 39)).heap.size := by simp
  have S0 := hS.kept B0
  have cR := yz (implTrack_any L lim mode A B C D coast fr ad c p _ hn hcap hc9 S0 (hE.kept B0))
  have cC := yz (fun W h => workOf_any L lim mode A B C D coast fr ad c W hn h)
  have HB := yz B0
  have HT := yz T0
  have HR := yz R0
  have HG := yz G0
  have HS := yz S0
  clear B0 T0 R0 G0 S0 hS
  go_enter Tryz.func69, Tryz.ntmps69
  go_wp2_with fail
  generalize (w.alloc (.cells #[.slice ad L.length c, .int .i64 lim, .int .i64 mode, .int .i64 A, .int .i64 B, .int .i64 C, .int .i64 D, .int .i64 coast, .int .i64 fr] 37)).alloc (.cells #[.slice none 0 0, .int .i64 0, .int .i64 0, .int .i64 0, .int .i64 0, .int .i64 0, .int .i64 0, .int .i64 0, .int .i64 0, .int .i64 0] 39) = W at *
  refine (yx cR).mono ?_
  rintro e w1 ⟨rfl, hx⟩
  have B1 := yz (below_call (yx HB) hx)
  have T1 := yz ((yx HT).kept hx)
  have R1 := yz ((yx HR).kept hx)
  have G1 := yz ((yx HG).kept (yx HR).lt hx)
  have S1 := yz ((yx HS).kept hx)
  have hsz1 : w.heap.size + 2 ≤ w1.heap.size := Nat.le_trans hsz hx.size
  clear hx HB HT HR HG HS hsz cR
  cases hk : trackB ⟨L, lim, mode, A, B, C, D, coast, fr⟩
  · have HO1 : Hid (resetT ⟨L, lim, mode, A, B, C, D, coast, fr⟩ = zeroK) := yz (by unfold resetT; rw [hk]; rfl)
    have HO2 : Hid (resetC ⟨L, lim, mode, A, B, C, D, coast, fr⟩ = 1) := yz (by unfold resetC; rw [hk]; rfl)
    have B2 := B1
    have R2 := R1
    have G2 := G1
    clear B1 R1 G1
    obtain ⟨⟨r0, r1, r2, r3, r4, r5, r6, r7, r8⟩, r9⟩ := yx R2
    have g0 := yx G2 0
    have g1 := yx G2 1
    have g2 := yx G2 2
    have g3 := yx G2 3
    have g4 := yx G2 4
    have g5 := yx G2 5
    have g6 := yx G2 6
    have g7 := yx G2 7
    have g8 := yx G2 8
    have g9 := yx G2 9
    go_wp2_with fail
    clear r0 r1 r2 r3 r4 r5 r6 r7 r8 r9 g0 g1 g2 g3 g4 g5 g6 g7 g8 g9
    refine bodyPost_ret (v := .agg #[.slice none 0 0, .int .i64 0, .int .i64 0, .int .i64 0, .int .i64 0, .int .i64 0, .int .i64 0, .int .i64 0, .int .i64 0, .int .i64 1]) ?_ rfl ⟨?_, ?_⟩
    · refine res_ireset _ _ (w.heap.size + 1) _ 0 0 0 0 0 0 0 0 1 rfl ?_
      exact tkO_set10 (yx R2) _ _ _ _ _ _ _ _ _ _
    · rw [yx HO1, yx HO2]
      exact outT_ill _ _ _
    · iterate 10 (refine belowSet ?_ (show w.heap.size ≤ w.heap.size + 1 by omega) _ _)
      exact yx B2
  · have HO1 : Hid (resetT ⟨L, lim, mode, A, B, C, D, coast, fr⟩ = ⟨L, lim, 0, 0, 0, 0, 0, 0, fr⟩) := yz (by unfold resetT; rw [hk]; rfl)
    have HO2 : Hid (resetC ⟨L, lim, mode, A, B, C, D, coast, fr⟩ = 0) := yz (by unfold resetC; rw [hk]; rfl)
    clear hk
    obtain ⟨s0, s1, s2, s3, s4, s5, s6, s7, s8⟩ := yx T1
    go_wp2_with fail
    clear s0 s1 s2 s3 s4 s5 s6 s7 s8
    refine (yx cC _ (yx S1)).mono ?_
    rintro e w2 ⟨a, cap, rfl, hC, hx⟩
    have B2 := yz (below_call (yx B1) hx)
    have R2 := yz ((yx R1).kept hx)
    have G2 := yz ((yx G1).kept (yx R1).lt hx)
    have C2 := yz (hC.low (B' := w.heap.size + 2) (by omega))
    clear hx hC B1 R1 G1 T1 S1 cC
    go_wp2_with fail
    refine (wlost_any lim mode A B C D coast fr a L.length cap _).mono ?_
    rintro e w2b ⟨rfl, hx⟩
    have B2b := yz (below_call (yx B2) hx)
    have R2b := yz ((yx R2).kept hx)
    have G2b := yz ((yx G2).kept (yx R2).lt hx)
    have C2b := yz ((yx C2).kept hx)
    clear hx B2 R2 G2 C2
    go_wp2_with fail
    refine (told_any lim 0 0 0 0 0 0 fr a L.length cap _).mono ?_
    rintro e w3 ⟨rfl, hx⟩
    have B3 := yz (below_call (yx B2b) hx)
    have R3 := yz ((yx R2b).kept hx)
    have G3 := yz ((yx G2b).kept (yx R2b).lt hx)
    have C3 := yz ((yx C2b).kept hx)
    clear hx B2b R2b G2b C2b
    obtain ⟨⟨r0, r1, r2, r3, r4, r5, r6, r7, r8⟩, r9⟩ := yx R3
    have g0 := yx G3 0
    have g1 := yx G3 1
    have g2 := yx G3 2
    have g3 := yx G3 3
    have g4 := yx G3 4
    have g5 := yx G3 5
    have g6 := yx G3 6
    have g7 := yx G3 7
    have g8 := yx G3 8
    have g9 := yx G3 9
    go_wp2_with fail
    clear r0 r1 r2 r3 r4 r5 r6 r7 r8 r9 g0 g1 g2 g3 g4 g5 g6 g7 g8 g9
    refine bodyPost_ret (v := .agg #[.slice a L.length cap, .int .i64 lim, .int .i64 0, .int .i64 0, .int .i64 0, .int .i64 0, .int .i64 0, .int .i64 0, .int .i64 fr, .int .i64 0]) ?_ rfl ⟨?_, ?_⟩
    · refine res_ireset _ _ (w.heap.size + 1) _ lim 0 0 0 0 0 0 fr 0 rfl ?_
      exact tkO_set10 (yx R3) _ _ _ _ _ _ _ _ _ _
    · rw [yx HO1, yx HO2]
      refine ⟨a, cap, rfl, ?_⟩
      refine Copied.low (B := w.heap.size + 2) ?_ (by omega)
      iterate 10 (refine Copied.far ?_ (show w.heap.size + 1 < w.heap.size + 2 by omega) _ _)
      exact yx C3
    · iterate 10 (refine belowSet ?_ (show w.heap.size ≤ w.heap.size + 1 by omega) _ _)
      exact yx B3
def coV1 (g1 g2 g3 g4 a b c d : Int) : Int := coP g1 g2 g3 g4 a b c d (coA g1 g2 g3 g4 a b c d)
def coV2 (g1 g2 g3 g4 a b c d : Int) : Int := coP g1 g2 g3 g4 a b c d (coB g1 g2 g3 g4 a b c d)
def coV3 (g1 g2 g3 g4 a b c d : Int) : Int := coP g1 g2 g3 g4 a b c d (coC g1 g2 g3 g4 a b c d)
def coV4 (g1 g2 g3 g4 a b c d : Int) : Int := coP g1 g2 g3 g4 a b c d (coD g1 g2 g3 g4 a b c d)
def turnedT (t : Tk) (g1 g2 g3 g4 : Int) : Tk := if t.mode = 0 then t else if coK g1 g2 g3 g4 t.A t.B t.C t.D = 0 then { t with A := coV1 g1 g2 g3 g4 t.A t.B t.C t.D, B := coV2 g1 g2 g3 g4 t.A t.B t.C t.D, C := coV3 g1 g2 g3 g4 t.A t.B t.C t.D, D := coV4 g1 g2 g3 g4 t.A t.B t.C t.D } else lostT t
def tkV (a : Option Addr) (n c : Nat) (t : Tk) : Value := .agg #[.slice a n c, .int .i64 t.lim, .int .i64 t.mode, .int .i64 t.A, .int .i64 t.B, .int .i64 t.C, .int .i64 t.D, .int .i64 t.coast, .int .i64 t.fr]
theorem compose_v (g1 g2 g3 g4 a b c d : Int) (w : World) :
    Calls Tryz.prog 148 #[.agg #[.int .i64 g1, .int .i64 g2, .int .i64 g3, .int .i64 g4], .agg #[.int .i64 a, .int .i64 b, .int .i64 c, .int .i64 d]] w fun e w' => e = .returned (.agg #[.int .i64 (coV1 g1 g2 g3 g4 a b c d), .int .i64 (coV2 g1 g2 g3 g4 a b c d), .int .i64 (coV3 g1 g2 g3 g4 a b c d), .int .i64 (coV4 g1 g2 g3 g4 a b c d), .int .i64 (coK g1 g2 g3 g4 a b c d)]) ∧ Below w.heap.size w w' := compose_any g1 g2 g3 g4 a b c d w
theorem l03Compose_v (g1 g2 g3 g4 a b c d : Int) (w : World) (hg : rightT g1 g2 g3 g4 = true) (ht : rightT a b c d = true) :
    Calls Tryz.prog 107 #[.agg #[.int .i64 g1, .int .i64 g2, .int .i64 g3, .int .i64 g4], .agg #[.int .i64 a, .int .i64 b, .int .i64 c, .int .i64 d]] w fun e w' => e = .returned (.agg #[.int .i64 (coV1 g1 g2 g3 g4 a b c d), .int .i64 (coV2 g1 g2 g3 g4 a b c d), .int .i64 (coV3 g1 g2 g3 g4 a b c d), .int .i64 (coV4 g1 g2 g3 g4 a b c d), .int .i64 (coK g1 g2 g3 g4 a b c d)]) ∧ Below w.heap.size w w' := by
  refine (l03Compose_any g1 g2 g3 g4 a b c d w (rightT_iff.1 hg).1 (rightT_iff.1 ht).1).mono fun e w' h => ⟨?_, h.2⟩
  rw [h.1, ← co_ok (by unfold coR; rw [hg, ht]; rfl)]
  rfl
theorem res_turned (T : Array Value) (X : World) (b : Nat) (v : Value) (lim mode A B C D coast fr : Int) (hT : T.getD 4 undef = .pointer (some ⟨b, 0, none⟩)) (h : TkAt X b v lim mode A B C D coast fr) : (results Tryz.f113 T).run Tryz.prog X = .ok (.agg #[v, .int .i64 lim, .int .i64 mode, .int .i64 A, .int .i64 B, .int .i64 C, .int .i64 D, .int .i64 coast, .int .i64 fr]) X := by
  obtain ⟨h0, h1, h2, h3, h4, h5, h6, h7, h8⟩ := h
  simp only [Array.getD_eq_getD_getElem?] at hT
  simp [results, Tryz.results113, go_sem, hT, h0, h1, h2, h3, h4, h5, h6, h7, h8]
set_option maxHeartbeats 4000000 in
set_option maxRecDepth 100000 in
theorem turnedBy_any (L : List St) (lim mode A B C D coast fr g1 g2 g3 g4 : Int) (a : Option Addr) (n c : Nat) (w : World) :
    Calls Tryz.prog 113 #[.agg #[.slice a n c, .int .i64 lim, .int .i64 mode, .int .i64 A, .int .i64 B, .int .i64 C, .int .i64 D, .int .i64 coast, .int .i64 fr], .agg #[.int .i64 g1, .int .i64 g2, .int .i64 g3, .int .i64 g4]] w fun e w' => e = .returned (tkV a n c (turnedT ⟨L, lim, mode, A, B, C, D, coast, fr⟩ g1 g2 g3 g4)) ∧ Below w.heap.size w w' := by
  by_cases hm : mode = 0
  · have HO : Hid (tkV a n c (turnedT ⟨L, lim, mode, A, B, C, D, coast, fr⟩ g1 g2 g3 g4) = .agg #[.slice a n c, .int .i64 lim, .int .i64 mode, .int .i64 A, .int .i64 B, .int .i64 C, .int .i64 D, .int .i64 coast, .int .i64 fr]) := yz (by unfold turnedT tkV; rw [if_pos hm])
    go_enter Tryz.func113, Tryz.ntmps113
    go_wp2
    rw [yx HO]
    subst hm
    exact bodyPost_ret (v := .agg #[.slice a n c, .int .i64 lim, .int .i64 0, .int .i64 A, .int .i64 B, .int .i64 C, .int .i64 D, .int .i64 coast, .int .i64 fr]) (by simp [results, Tryz.results113, go_sem]) rfl ⟨rfl, below3 _ _ _ _⟩
  have B0 := below3 w (.cells #[.slice a n c, .int .i64 lim, .int .i64 mode, .int .i64 A, .int .i64 B, .int .i64 C, .int .i64 D, .int .i64 coast, .int .i64 fr] 92) (.cells #[.int .i64 g1, .int .i64 g2, .int .i64 g3, .int .i64 g4] 35) (.cells #[.slice none 0 0, .int .i64 0, .int .i64 0, .int .i64 0, .int .i64 0, .int .i64 0, .int .i64 0, .int .i64 0, .int .i64 0] 92)
  have Z2 := below2 (w.alloc (.cells #[.slice a n c, .int .i64 lim, .int .i64 mode, .int .i64 A, .int .i64 B, .int .i64 C, .int .i64 D, .int .i64 coast, .int .i64 fr] 92)) (.cells #[.int .i64 g1, .int .i64 g2, .int .i64 g3, .int .i64 g4] 35) (.cells #[.slice none 0 0, .int .i64 0, .int .i64 0, .int .i64 0, .int .i64 0, .int .i64 0, .int .i64 0, .int .i64 0, .int .i64 0] 92)
  have T0 := (tkAt_new w (.slice a n c) lim mode A B C D coast fr 92).kept Z2
  have F0 := (freeK_new w #[.slice a n c, .int .i64 lim, .int .i64 mode, .int .i64 A, .int .i64 B, .int .i64 C, .int .i64 D, .int .i64 coast, .int .i64 fr] 92).kept (by simp) Z2
  have R0 := (by simpa using tkAt_new ((w.alloc (.cells #[.slice a n c, .int .i64 lim, .int .i64 mode, .int .i64 A, .int .i64 B, .int .i64 C, .int .i64 D, .int .i64 coast, .int .i64 fr] 92)).alloc (.cells #[.int .i64 g1, .int .i64 g2, .int .i64 g3, .int .i64 g4] 35)) (.slice none 0 0) 0 0 0 0 0 0 0 0 92 : TkAt (((w.alloc (.cells #[.slice a n c, .int .i64 lim, .int .i64 mode, .int .i64 A, .int .i64 B, .int .i64 C, .int .i64 D, .int .i64 coast, .int .i64 fr] 92)).alloc (.cells #[.int .i64 g1, .int .i64 g2, .int .i64 g3, .int .i64 g4] 35)).alloc (.cells #[.slice none 0 0, .int .i64 0, .int .i64 0, .int .i64 0, .int .i64 0, .int .i64 0, .int .i64 0, .int .i64 0, .int .i64 0] 92)) (w.heap.size + 1 + 1) (.slice none 0 0) 0 0 0 0 0 0 0 0)
  have G0 := (by simpa using freeK_new ((w.alloc (.cells #[.slice a n c, .int .i64 lim, .int .i64 mode, .int .i64 A, .int .i64 B, .int .i64 C, .int .i64 D, .int .i64 coast, .int .i64 fr] 92)).alloc (.cells #[.int .i64 g1, .int .i64 g2, .int .i64 g3, .int .i64 g4] 35)) #[.slice none 0 0, .int .i64 0, .int .i64 0, .int .i64 0, .int .i64 0, .int .i64 0, .int .i64 0, .int .i64 0, .int .i64 0] 92 : FreeK (((w.alloc (.cells #[.slice a n c, .int .i64 lim, .int .i64 mode, .int .i64 A, .int .i64 B, .int .i64 C, .int .i64 D, .int .i64 coast, .int .i64 fr] 92)).alloc (.cells #[.int .i64 g1, .int .i64 g2, .int .i64 g3, .int .i64 g4] 35)).alloc (.cells #[.slice none 0 0, .int .i64 0, .int .i64 0, .int .i64 0, .int .i64 0, .int .i64 0, .int .i64 0, .int .i64 0, .int .i64 0] 92)) (w.heap.size + 1 + 1))
  have HB := yz B0
  have HT := yz T0
  have HF := yz F0
  have HR := yz R0
  have HG := yz G0
  have hO1 : coK g1 g2 g3 g4 A B C D = 0 → Hid (tkV a n c (turnedT ⟨L, lim, mode, A, B, C, D, coast, fr⟩ g1 g2 g3 g4) = .agg #[.slice a n c, .int .i64 lim, .int .i64 mode, .int .i64 (coV1 g1 g2 g3 g4 A B C D), .int .i64 (coV2 g1 g2 g3 g4 A B C D), .int .i64 (coV3 g1 g2 g3 g4 A B C D), .int .i64 (coV4 g1 g2 g3 g4 A B C D), .int .i64 coast, .int .i64 fr]) := fun h => yz (by unfold turnedT tkV; rw [if_neg hm, if_pos h])
  have hO2 : coK g1 g2 g3 g4 A B C D ≠ 0 → Hid (tkV a n c (turnedT ⟨L, lim, mode, A, B, C, D, coast, fr⟩ g1 g2 g3 g4) = .agg #[.slice a n c, .int .i64 lim, .int .i64 0, .int .i64 0, .int .i64 0, .int .i64 0, .int .i64 0, .int .i64 0, .int .i64 fr]) := fun h => yz (by unfold turnedT tkV; rw [if_neg hm, if_neg h]; rfl)
  have cX := yz (fun W => compose_v g1 g2 g3 g4 A B C D W)
  generalize coV1 g1 g2 g3 g4 A B C D = P1 at *
  generalize coV2 g1 g2 g3 g4 A B C D = P2 at *
  generalize coV3 g1 g2 g3 g4 A B C D = P3 at *
  generalize coV4 g1 g2 g3 g4 A B C D = P4 at *
  generalize coK g1 g2 g3 g4 A B C D = Pk at *
  clear B0 Z2 T0 F0 R0 G0
  go_enter Tryz.func113, Tryz.ntmps113
  go_wp2_with fail
  refine (yx cX _).mono ?_
  rintro e w1 ⟨rfl, hx⟩
  have Z1 := below1 w1 (.cells #[.int .i64 P1, .int .i64 P2, .int .i64 P3, .int .i64 P4, .int .i64 Pk] 156)
  have B1 := yz (below_call (below_call (yx HB) hx) Z1)
  have T1 := yz (((yx HT).kept hx).kept Z1)
  have F1 := yz (((yx HF).kept (yx HT).lt hx).kept ((yx HT).kept hx).lt Z1)
  have R1 := yz (((yx HR).kept hx).kept Z1)
  have G1 := yz (((yx HG).kept (yx HR).lt hx).kept ((yx HR).kept hx).lt Z1)
  have O1 := outAt_new w1 P1 P2 P3 P4 Pk 156
  clear hx Z1 HB HT HF HR HG cX
  obtain ⟨o0, o1, o2, o3, o4⟩ := O1
  by_cases hk : Pk = 0
  · have HO := hO1 hk
    clear hO1 hO2
    subst hk
    obtain ⟨s0, s1, s2, s3, s4, s5, s6, s7, s8⟩ := yx T1
    obtain ⟨r0, r1, r2, r3, r4, r5, r6, r7, r8⟩ := yx R1
    have f3 := yx F1 3
    have f4 := yx F1 4
    have f5 := yx F1 5
    have f6 := yx F1 6
    have g0 := yx G1 0
    have q1 := yx G1 1
    have q2 := yx G1 2
    have q3 := yx G1 3
    have q4 := yx G1 4
    have q5 := yx G1 5
    have q6 := yx G1 6
    have q7 := yx G1 7
    have q8 := yx G1 8
    go_wp2_with fail
    clear s0 s1 s2 s3 s4 s5 s6 s7 s8 r0 r1 r2 r3 r4 r5 r6 r7 r8 f3 f4 f5 f6 g0 q1 q2 q3 q4 q5 q6 q7 q8 o0 o1 o2 o3 o4
    rw [yx HO]
    refine bodyPost_ret (v := .agg #[.slice a n c, .int .i64 lim, .int .i64 mode, .int .i64 P1, .int .i64 P2, .int .i64 P3, .int .i64 P4, .int .i64 coast, .int .i64 fr]) ?_ rfl ⟨rfl, ?_⟩
    · refine res_turned _ _ (w.heap.size + 1 + 1) _ lim mode P1 P2 P3 P4 coast fr rfl ?_
      refine tkAt_set9 (lim0 := 0) (mode0 := 0) (A0 := 0) (B0 := 0) (C0 := 0) (D0 := 0) (coast0 := 0) (fr0 := 0) (u := .slice none 0 0) ?_ _ lim mode P1 P2 P3 P4 coast fr
      iterate 4 (refine TkAt.far ?_ (show w.heap.size + 1 + 1 ≠ w.heap.size by omega) _ _)
      exact yx R1
    · iterate 9 (refine belowSet ?_ (show w.heap.size ≤ w.heap.size + 1 + 1 by omega) _ _)
      iterate 4 (refine belowSet ?_ (Nat.le_refl w.heap.size) _ _)
      exact yx B1
  · have HO := hO2 hk
    clear hO1 hO2
    obtain ⟨s0, s1, s2, s3, s4, s5, s6, s7, s8⟩ := yx T1
    go_wp2_with fail
    clear s0 s1 s2 s3 s4 s5 s6 s7 s8 o0 o1 o2 o3 o4
    refine (wlost_any lim mode A B C D coast fr a n c _).mono ?_
    rintro e w2 ⟨rfl, hx⟩
    have B2 := yz (below_call (yx B1) hx)
    have R2 := yz ((yx R1).kept hx)
    have G2 := yz ((yx G1).kept (yx R1).lt hx)
    clear hx B1 R1 G1 T1 F1
    obtain ⟨r0, r1, r2, r3, r4, r5, r6, r7, r8⟩ := yx R2
    have q0 := yx G2 0
    have q1 := yx G2 1
    have q2 := yx G2 2
    have q3 := yx G2 3
    have q4 := yx G2 4
    have q5 := yx G2 5
    have q6 := yx G2 6
    have q7 := yx G2 7
    have q8 := yx G2 8
    go_wp2_with fail
    clear r0 r1 r2 r3 r4 r5 r6 r7 r8 q0 q1 q2 q3 q4 q5 q6 q7 q8
    rw [yx HO]
    refine bodyPost_ret (v := .agg #[.slice a n c, .int .i64 lim, .int .i64 0, .int .i64 0, .int .i64 0, .int .i64 0, .int .i64 0, .int .i64 0, .int .i64 fr]) ?_ rfl ⟨rfl, ?_⟩
    · refine res_turned _ _ (w.heap.size + 1 + 1) _ lim 0 0 0 0 0 0 fr rfl ?_
      exact tkAt_set9 (lim0 := 0) (mode0 := 0) (A0 := 0) (B0 := 0) (C0 := 0) (D0 := 0) (coast0 := 0) (fr0 := 0) (u := .slice none 0 0) (yx R2) _ lim 0 0 0 0 0 0 fr
    · iterate 9 (refine belowSet ?_ (show w.heap.size ≤ w.heap.size + 1 + 1 by omega) _ _)
      exact yx B2
theorem stepTkZ {w1 wx wn : World} {X : Prop} (hx : Below wx.heap.size wx wn) (h : X ∧ Below w1.heap.size w1 wx) : Below w1.heap.size w1 wn := below_call h.2 hx
theorem stepTkD {w1 wx wn : World} {X : Prop} (hx : Below wx.drew.heap.size wx.drew wn) (h : X ∧ Below w1.heap.size w1 wx) : Below w1.heap.size w1 wn := h.2.drew.trans (hx.mono h.2.size)
theorem holdTT {w1 wx : World} {P Q : Nat} {u v : Value} {lim mode A B C D coast fr : Int} (ta : TkAt w1 P u lim mode A B C D coast fr) (tb : TkAt w1 Q v lim mode A B C D coast fr) (h : Below w1.heap.size w1 wx) : ((wx.cell? ⟨P, 0, none⟩ = some (u) ∧ wx.cell? ⟨P, 1, none⟩ = some (.int .i64 lim) ∧ wx.cell? ⟨P, 2, none⟩ = some (.int .i64 mode) ∧ wx.cell? ⟨P, 3, none⟩ = some (.int .i64 A) ∧ wx.cell? ⟨P, 4, none⟩ = some (.int .i64 B) ∧ wx.cell? ⟨P, 5, none⟩ = some (.int .i64 C) ∧ wx.cell? ⟨P, 6, none⟩ = some (.int .i64 D) ∧ wx.cell? ⟨P, 7, none⟩ = some (.int .i64 coast) ∧ wx.cell? ⟨P, 8, none⟩ = some (.int .i64 fr)) ∧ (wx.cell? ⟨Q, 0, none⟩ = some (v) ∧ wx.cell? ⟨Q, 1, none⟩ = some (.int .i64 lim) ∧ wx.cell? ⟨Q, 2, none⟩ = some (.int .i64 mode) ∧ wx.cell? ⟨Q, 3, none⟩ = some (.int .i64 A) ∧ wx.cell? ⟨Q, 4, none⟩ = some (.int .i64 B) ∧ wx.cell? ⟨Q, 5, none⟩ = some (.int .i64 C) ∧ wx.cell? ⟨Q, 6, none⟩ = some (.int .i64 D) ∧ wx.cell? ⟨Q, 7, none⟩ = some (.int .i64 coast) ∧ wx.cell? ⟨Q, 8, none⟩ = some (.int .i64 fr))) ∧ Below w1.heap.size w1 wx := ⟨⟨ta.kept h, tb.kept h⟩, h⟩
end Go.Proofs.YteoonaanoenjiaaGreatDoor
