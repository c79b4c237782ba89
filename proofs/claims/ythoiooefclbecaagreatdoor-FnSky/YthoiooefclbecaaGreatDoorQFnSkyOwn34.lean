/- Several texts in one: TfA, PairQ, PairR, PairS, PairU, PairUa. -/
import Derived.BigRegion
import Derived.Test.YthoiooefclbecaaGreatDoorQFnSkyOwn19
import Derived.Test.YthoiooefclbecaaGreatDoorQFnSkyOwn18
import Derived.Test.YthoiooefclbecaaGreatDoorQFnSkyOwn17
import Derived.Test.YthoiooefclbecaaGreatDoorQFnSkyOwn29
namespace Go.Proofs.YthoiooefclbecaaGreatDoor
set_option linter.unusedVariables false
set_option linter.unusedSimpArgs false
set_option maxRecDepth 100000
set_option maxHeartbeats 8000000
section
open Go.RowKit Go.Sort
theorem aZ.span {w : World} {t : TypeId} {g n i : Nat} {m : Nat → Sp} (h : aZ w t g (n * 8) (bz m)) (hi : i < n) : jM w g (i * 8) (m i) := by
 have c : ∀ r, r < 8 → w.cell? ⟨g, i * 8 + r, none⟩ = some (.int .i64 (sh (m i) r)) := fun r hr => by
  rw [h.cell (j := i * 8 + r) (by omega)]
  unfold bz
  rw [show (i * 8 + r) / 8 = i by omega, show (i * 8 + r) % 8 = r by omega]
 exact ⟨c 0 (by omega), c 1 (by omega), c 2 (by omega), c 3 (by omega), c 4 (by omega), c 5 (by omega), c 6 (by omega), c 7 (by omega)⟩
theorem iT {w w1 w2 : World} {row : Option Nat} (h : w.grownBy w1 row) (hB : Below w1.heap.size w1 w2) : w.grownBy w2 row :=
 ⟨by rw [hB.os]; exact h.os, by rw [hB.tape]; exact h.tape, by rw [hB.output]; exact h.output, Nat.le_trans h.size hB.size, fun k hk hne => by rw [hB.block k (Nat.lt_of_lt_of_le hk h.size)]; exact h.block k hk hne⟩
theorem aZ.drewn {w : World} {t : TypeId} {g m : Nat} {f : Nat → Int} (h : aZ w t g m f) : aZ w.drew t g m f := h.same rfl
theorem oG {w W : World} {row : Option Nat} (h : w.grownBy W row) : w.grownBy W.drew row := ⟨h.os, h.tape, h.output, h.size, h.block⟩
theorem pj {j : Nat} {P : List Sp} {s : Sp} {R : Nat → Sp} (hj : j < P.length) {x1 x2 x3 x4 x5 x6 x7 x8 y1 y2 y3 y4 y5 y6 y7 y8 : Int} (hx : ((x1, x2), (x3, x4, x5), x6, x7, x8) = spA P j) (hy : ((y1, y2), (y3, y4, y5), y6, y7, y8) = s) (q : Nat) :
  (if q = (j + 1) * 8 + 7 then x8 else if q = (j + 1) * 8 + 6 then x7 else if q = (j + 1) * 8 + 5 then x6 else if q = (j + 1) * 8 + 4 then x5 else if q = (j + 1) * 8 + 3 then x4 else if q = (j + 1) * 8 + 2 then x3 else if q = (j + 1) * 8 + 1 then x2 else if q = (j + 1) * 8 then x1 else if q = j * 8 + 7 then y8 else if q = j * 8 + 6 then y7 else if q = j * 8 + 5 then y6 else if q = j * 8 + 4 then y5 else if q = j * 8 + 3 then y4 else if q = j * 8 + 2 then y3 else if q = j * 8 + 1 then y2 else if q = j * 8 then y1 else bz (eN P s R (j + 1)) q) = bz (eN P s R j) q := by
 unfold bz
 rw [qs P s R j hj (q / 8), ← hx, ← hy]
 by_cases h1 : q / 8 = j + 1
 ·have hr : q % 8 < 8 := Nat.mod_lt _ (by omega)
  have hq : q = j * 8 + 8 + q % 8 := by omega
  rw [if_neg (show ¬ q / 8 = j by omega), if_pos h1]
  generalize q % 8 = r at hr hq
  subst hq
  match r, hr with
  | 0, _ => (repeat (first | rw [if_neg (by omega)] | rw [if_pos (by omega)])); rfl
  | 1, _ => (repeat (first | rw [if_neg (by omega)] | rw [if_pos (by omega)])); rfl
  | 2, _ => (repeat (first | rw [if_neg (by omega)] | rw [if_pos (by omega)])); rfl
  | 3, _ => (repeat (first | rw [if_neg (by omega)] | rw [if_pos (by omega)])); rfl
  | 4, _ => (repeat (first | rw [if_neg (by omega)] | rw [if_pos (by omega)])); rfl
  | 5, _ => (repeat (first | rw [if_neg (by omega)] | rw [if_pos (by omega)])); rfl
  | 6, _ => (repeat (first | rw [if_neg (by omega)] | rw [if_pos (by omega)])); rfl
  | 7, _ => (repeat (first | rw [if_neg (by omega)] | rw [if_pos (by omega)])); rfl
 ·by_cases h2 : q / 8 = j
  ·have hr : q % 8 < 8 := Nat.mod_lt _ (by omega)
   have hq : q = j * 8 + q % 8 := by omega
   rw [if_pos h2]
   generalize q % 8 = r at hr hq
   subst hq
   match r, hr with
   | 0, _ => (repeat (first | rw [if_neg (by omega)] | rw [if_pos (by omega)])); rfl
   | 1, _ => (repeat (first | rw [if_neg (by omega)] | rw [if_pos (by omega)])); rfl
   | 2, _ => (repeat (first | rw [if_neg (by omega)] | rw [if_pos (by omega)])); rfl
   | 3, _ => (repeat (first | rw [if_neg (by omega)] | rw [if_pos (by omega)])); rfl
   | 4, _ => (repeat (first | rw [if_neg (by omega)] | rw [if_pos (by omega)])); rfl
   | 5, _ => (repeat (first | rw [if_neg (by omega)] | rw [if_pos (by omega)])); rfl
   | 6, _ => (repeat (first | rw [if_neg (by omega)] | rw [if_pos (by omega)])); rfl
   | 7, _ => (repeat (first | rw [if_neg (by omega)] | rw [if_pos (by omega)])); rfl
  ·rw [if_neg h2, if_neg h1]
   repeat rw [if_neg (by omega)]
theorem pK {S P : List Sp} {s : Sp} {k j : Nat} (hP : P = cd (S.take k)) (hs : s = spA S k) (hk : k < S.length) (hl : P.length = k) (hj : j = bI s P k) (q : Nat) :
  bz (eN P s (spA S) j) q = bz (fun q => if q < k + 1 then spA (cd (S.take (k + 1))) q else spA S q) q := by
 unfold bz
 by_cases h : q / 8 < k + 1
 ·simp only [if_pos h]
  rw [np S k hk, ← hP, ← hs, ky s P (spA S) (q / 8) (by omega), hl, hj]
 ·simp only [if_neg h]
  have hb := fj s P k
  unfold eN
  rw [if_neg (by omega), if_neg (by omega), if_neg (by omega)]
theorem rW {W : World} {t : TypeId} {g n m : Nat} {P : List Sp} {s : Sp} {R : Nat → Sp} (hm : m < P.length) {x1 x2 x3 x4 x5 x6 x7 x8 y1 y2 y3 y4 y5 y6 y7 y8 : Int} (hx : ((x1, x2), (x3, x4, x5), x6, x7, x8) = spA P m) (hy : ((y1, y2), (y3, y4, y5), y6, y7, y8) = s) (h : aZ W t g (n * 8) (bz (eN P s R (m + 1)))) :
  aZ (((((((((((((((((W.setCell ⟨g, m * 8, none⟩ (.int .i64 y1)).setCell ⟨g, m * 8 + 1, none⟩ (.int .i64 y2)).setCell ⟨g, m * 8 + 2, none⟩ (.int .i64 y3)).setCell ⟨g, m * 8 + 3, none⟩ (.int .i64 y4)).setCell ⟨g, m * 8 + 4, none⟩ (.int .i64 y5)).setCell ⟨g, m * 8 + 5, none⟩ (.int .i64 y6)).setCell ⟨g, m * 8 + 6, none⟩ (.int .i64 y7)).setCell ⟨g, m * 8 + 7, none⟩ (.int .i64 y8)).setCell ⟨g, (m + 1) * 8, none⟩ (.int .i64 x1)).setCell ⟨g, (m + 1) * 8 + 1, none⟩ (.int .i64 x2)).setCell ⟨g, (m + 1) * 8 + 2, none⟩ (.int .i64 x3)).setCell ⟨g, (m + 1) * 8 + 3, none⟩ (.int .i64 x4)).setCell ⟨g, (m + 1) * 8 + 4, none⟩ (.int .i64 x5)).setCell ⟨g, (m + 1) * 8 + 5, none⟩ (.int .i64 x6)).setCell ⟨g, (m + 1) * 8 + 6, none⟩ (.int .i64 x7)).setCell ⟨g, (m + 1) * 8 + 7, none⟩ (.int .i64 x8)).drew) t g (n * 8) (bz (eN P s R m)) := by
 have r := ((((((((((((((((h.set (m * 8) y1).set (m * 8 + 1) y2).set (m * 8 + 2) y3).set (m * 8 + 3) y4).set (m * 8 + 4) y5).set (m * 8 + 5) y6).set (m * 8 + 6) y7).set (m * 8 + 7) y8).set ((m + 1) * 8) x1).set ((m + 1) * 8 + 1) x2).set ((m + 1) * 8 + 2) x3).set ((m + 1) * 8 + 3) x4).set ((m + 1) * 8 + 4) x5).set ((m + 1) * 8 + 5) x6).set ((m + 1) * 8 + 6) x7).set ((m + 1) * 8 + 7) x8)
 have r2 := r.congr (f' := bz (eN P s R m)) (fun q _ => pj hm hx hy q)
 exact r2.drewn
theorem pk {w W : World} {g m : Nat} (h : w.grownBy W (some g)) (x1 x2 x3 x4 x5 x6 x7 x8 y1 y2 y3 y4 y5 y6 y7 y8 : Int) :
  w.grownBy (((((((((((((((((W.setCell ⟨g, m * 8, none⟩ (.int .i64 y1)).setCell ⟨g, m * 8 + 1, none⟩ (.int .i64 y2)).setCell ⟨g, m * 8 + 2, none⟩ (.int .i64 y3)).setCell ⟨g, m * 8 + 3, none⟩ (.int .i64 y4)).setCell ⟨g, m * 8 + 4, none⟩ (.int .i64 y5)).setCell ⟨g, m * 8 + 5, none⟩ (.int .i64 y6)).setCell ⟨g, m * 8 + 6, none⟩ (.int .i64 y7)).setCell ⟨g, m * 8 + 7, none⟩ (.int .i64 y8)).setCell ⟨g, (m + 1) * 8, none⟩ (.int .i64 x1)).setCell ⟨g, (m + 1) * 8 + 1, none⟩ (.int .i64 x2)).setCell ⟨g, (m + 1) * 8 + 2, none⟩ (.int .i64 x3)).setCell ⟨g, (m + 1) * 8 + 3, none⟩ (.int .i64 x4)).setCell ⟨g, (m + 1) * 8 + 4, none⟩ (.int .i64 x5)).setCell ⟨g, (m + 1) * 8 + 5, none⟩ (.int .i64 x6)).setCell ⟨g, (m + 1) * 8 + 6, none⟩ (.int .i64 x7)).setCell ⟨g, (m + 1) * 8 + 7, none⟩ (.int .i64 x8)).drew) (some g) := by
 have r := aX (aX (aX (aX (aX (aX (aX (aX (aX (aX (aX (aX (aX (aX (aX (aX h (m * 8) (.int .i64 y1)) (m * 8 + 1) (.int .i64 y2)) (m * 8 + 2) (.int .i64 y3)) (m * 8 + 3) (.int .i64 y4)) (m * 8 + 4) (.int .i64 y5)) (m * 8 + 5) (.int .i64 y6)) (m * 8 + 6) (.int .i64 y7)) (m * 8 + 7) (.int .i64 y8)) ((m + 1) * 8) (.int .i64 x1)) ((m + 1) * 8 + 1) (.int .i64 x2)) ((m + 1) * 8 + 2) (.int .i64 x3)) ((m + 1) * 8 + 3) (.int .i64 x4)) ((m + 1) * 8 + 4) (.int .i64 x5)) ((m + 1) * 8 + 5) (.int .i64 x6)) ((m + 1) * 8 + 6) (.int .i64 x7)) ((m + 1) * 8 + 7) (.int .i64 x8)
 exact oG r
theorem kq (S : List Sp) (g cap : Nat) (w : World) (hn : S.length ≤ 200) (hn1 : 1 ≤ S.length) (hR : aZ w 92 g (S.length * 8) (bz (spA S))) :
  Calls Tryz.prog 89 #[.slice (some ⟨g, 0, none⟩) S.length cap, .func (.func 90) #[] #[]] w fun e w' => e = .returned (.tuple #[]) ∧ aZ w' 92 g (S.length * 8) (bz (spA (cd S))) ∧ w.grownBy w' (some g) := by
 obtain ⟨n, hnl⟩ : ∃ n, S.length = n := ⟨_, rfl⟩
 rw [hnl] at hn hR hn1 ⊢
 have HL := yz hnl
 have HR := yz hR
 clear hnl hR
 go_enter Tryz.func89, Tryz.ntmps89
 go_wp2_with fail
 go_loopw [4] (fun i wr => ∃ k : Nat, 1 ≤ k ∧ k ≤ n ∧ i = .int .i64 k ∧ Hid (aZ wr 92 g (n * 8) (bz (fun q => if q < k then spA (cd (S.take k)) q else spA S q))) ∧ Hid (w.grownBy wr (some g))) (fun i _ => n - (intOf i).toNat)
 case atStart =>
  refine ⟨1, by omega, by omega, rfl, yz ((yy HR).congr (fun q hq => ?_)), yz (qm w _)⟩
  unfold bz
  by_cases h : q / 8 < 1
  ·simp only [if_pos h]
   have e : S.take 1 = [spA S 0] := by rw [kI S 0 (by rw [yy HL]; omega)]; rfl
   rw [e, show q / 8 = 0 by omega]
   rfl
  ·simp only [if_neg h]
 case round =>
  obtain ⟨k, hk1, hk, rfl, HW, HG⟩ := hrel
  by_cases hkn : k < n
  ·have hkn2 : (k : Int) < (n : Int) := by omega
   obtain ⟨P, hP⟩ : ∃ P, P = cd (S.take k) := ⟨_, rfl⟩
   obtain ⟨s, hs⟩ : ∃ s, s = spA S k := ⟨_, rfl⟩
   have HP := yz hP
   have HSs := yz hs
   have hPl : P.length = k := by rw [hP, eX, List.length_take]; have := yy HL; omega
   have HPl := yz hPl
   clear hP hs hPl
   go_wp2_with fail
   go_loopw [5] (fun i wx => ∃ j : Nat, j ≤ k ∧ i = .int .i64 j ∧ Hid (aZ wx 92 g (n * 8) (bz (eN P s (spA S) j))) ∧ Hid (bI s P j = bI s P k) ∧ Hid (w.grownBy wx (some g))) (fun i _ => (intOf i).toNat)
   case atStart =>
    refine ⟨k, Nat.le_refl _, rfl, yz ((yy HW).congr (fun q hq => ?_)), yz rfl, HG⟩
    unfold bz
    have e := oM P s (spA S) (q / 8)
    rw [yy HPl] at e
    rw [e, yy HP]
    by_cases h1 : q / 8 < k
    ·simp only [if_pos h1]
    ·by_cases h2 : q / 8 = k
     ·rw [if_neg h1, if_pos h2, yy HSs]
      show sh (if q / 8 < k then _ else _) _ = _
      rw [if_neg h1, h2]
     ·simp only [if_neg h1, if_neg h2]
   case round =>
    obtain ⟨j, hj, rfl, HX, HK, HG2⟩ := hrel
    clear HW HG
    rcases Nat.eq_zero_or_pos j with hj0 | hj0
    ·subst hj0
     have HO : Hid (aZ wr 92 g (n * 8) (bz (fun q => if q < k + 1 then spA (cd (S.take (k + 1))) q else spA S q))) := yz ((yy HX).congr (fun q hq => pK (yy HP) (yy HSs) (by rw [yy HL]; exact hkn) (yy HPl) (by rw [← yy HK]; rfl) q))
     go_wp2_with fail
     refine wp_region_quiet_below (by kernel_rfl) (by kernel_rfl) ?_
     repeat (go_big_quiet_step (fail))
     refine wpQuiet_nil ?_
     intro _ hw'
     obtain ⟨⟨dq, osq⟩, hw''⟩ := hw'
     subst hw''
     have hx := below_regrown wr dq osq
     have HO2 := yz ((yy HO).kept hx)
     have HG3 := yz (iT (yy HG2) hx)
     generalize grow (redrawn wr dq) osq = W2 at hx HO2 HG3 ⊢
     clear hx
     go_wp2_with fail
     go_roundw
     case rel => exact ⟨k + 1, by omega, by omega, by go_num, HO2, HG3⟩
     case measure => simp [intOf] <;> omega
    ·obtain ⟨m, rfl⟩ : ∃ m, j = m + 1 := ⟨j - 1, by omega⟩
     have s1 := (yy HX).span (i := m) (by omega)
     have s2 := (yy HX).span (i := m + 1) (by omega)
     rw [iZ] at s1
     rw [pF] at s2
     obtain ⟨x, hx⟩ : ∃ x, x = spA P m := ⟨_, rfl⟩
     rw [← hx] at s1
     have HXe := yz hx
     clear hx
     obtain ⟨y, hy⟩ : ∃ y, y = s := ⟨_, rfl⟩
     rw [← hy] at s2
     have HYe := yz hy
     clear hy
     have HB : Hid (spB s (spA P m) = decide (0 < fy x y)) := yz (by rw [yy HXe, yy HYe]; rfl)
     obtain ⟨⟨x1, x2⟩, ⟨x3, x4, x5⟩, x6, x7, x8⟩ := x
     obtain ⟨⟨y1, y2⟩, ⟨y3, y4, y5⟩, y6, y7, y8⟩ := y
     have cC := yz (fun W => la x1 x2 x3 x4 x5 x6 x7 x8 y1 y2 y3 y4 y5 y6 y7 y8 W)
     generalize fy ((x1, x2), (x3, x4, x5), x6, x7, x8) ((y1, y2), (y3, y4, y5), y6, y7, y8) = c at cC HB
     obtain ⟨a0, a1, a2, a3, a4, a5, a6, a7⟩ := s1
     obtain ⟨b0, b1, b2, b3, b4, b5, b6, b7⟩ := s2
     have ra0 := cell_regrown a0
     have ra1 := cell_regrown a1
     have ra2 := cell_regrown a2
     have ra3 := cell_regrown a3
     have ra4 := cell_regrown a4
     have ra5 := cell_regrown a5
     have ra6 := cell_regrown a6
     have ra7 := cell_regrown a7
     have rb0 := cell_regrown b0
     have rb1 := cell_regrown b1
     have rb2 := cell_regrown b2
     have rb3 := cell_regrown b3
     have rb4 := cell_regrown b4
     have rb5 := cell_regrown b5
     have rb6 := cell_regrown b6
     have rb7 := cell_regrown b7
     clear a0 a1 a2 a3 a4 a5 a6 a7 b0 b1 b2 b3 b4 b5 b6 b7
     have i1 : (m : Int) < (n : Int) := by omega
     have i2 : (m : Int) + 1 < (n : Int) := by omega
     have i3 : (0 : Int) < (m : Int) + 1 := by omega
     go_wp2_with fail
     refine wp_region_quiet_below (by kernel_rfl) (by kernel_rfl) ?_
     repeat (go_big_quiet_step (first | (with_reducible exact Calls.regrown_of (yy cC _))))
     refine wpQuiet_nil ?_
     intro _ hw'
     obtain ⟨⟨dq, osq⟩, hw''⟩ := hw'
     subst hw''
     have hx := below_regrown wr dq osq
     have HX2 := yz ((yy HX).kept hx)
     have HG3 := yz (iT (yy HG2) hx)
     generalize grow (redrawn wr dq) osq = W2 at hx HX2 HG3 ⊢
     clear hx ra0 ra1 ra2 ra3 ra4 ra5 ra6 ra7 rb0 rb1 rb2 rb3 rb4 rb5 rb6 rb7 HX HG2
     by_cases hc : 0 < c
     ·have s1 := (yy HX2).span (i := m) (by omega)
      have s2 := (yy HX2).span (i := m + 1) (by omega)
      rw [iZ, ← yy HXe] at s1
      rw [pF, ← yy HYe] at s2
      obtain ⟨a0, a1, a2, a3, a4, a5, a6, a7⟩ := s1
      obtain ⟨b0, b1, b2, b3, b4, b5, b6, b7⟩ := s2
      have fr := (yy HX2).free
      go_wp2_with fail
      have HX3 := yz (rW (by rw [yy HPl]; omega) (yy HXe) (yy HYe) (yy HX2))
      have HG4 := yz (pk (m := m) (yy HG3) x1 x2 x3 x4 x5 x6 x7 x8 y1 y2 y3 y4 y5 y6 y7 y8)
      have HK2 : Hid (bI s P m = bI s P k) := yz (by rw [← yy HK]; exact (ow s P m (by rw [yy HB]; simpa using hc)).symm)
      go_region
      go_wp2_with fail
      go_roundw
      case rel => exact ⟨m, by omega, by go_num, HX3, HK2, HG4⟩
      case measure => simp [intOf] <;> omega
     ·have HO : Hid (aZ W2 92 g (n * 8) (bz (fun q => if q < k + 1 then spA (cd (S.take (k + 1))) q else spA S q))) := yz ((yy HX2).congr (fun q hq => pK (yy HP) (yy HSs) (by rw [yy HL]; exact hkn) (yy HPl) (by rw [← yy HK]; exact (oy s P m (by rw [yy HB]; simpa using hc)).symm) q))
      go_wp2_with fail
      go_roundw
      case rel => exact ⟨k + 1, by omega, by omega, by go_num, HO, HG3⟩
      case measure => simp [intOf] <;> omega
  ·have hkn' : k = n := by omega
   subst hkn'
   go_wp2_with fail
   go_end0
   refine ⟨rfl, (yy HW).congr (fun q hq => ?_), yy HG⟩
   unfold bz
   have hq8 : q / 8 < k := by omega
   simp only [if_pos hq8]
   rw [← yy HL, List.take_length]
theorem qn : (Tryz.prog.info? 92).map (fun i => (i.zero, i.size, i.bytes)) = some (some (.agg #[.int .i64 0, .int .i64 0, .int .i64 0, .int .i64 0, .int .i64 0, .int .i64 0, .int .i64 0, .int .i64 0]), 8, 64) := by kernel_rfl
def dI (S : List Sp) : List Value := S.flatMap spL
theorem qi (A B : List Sp) : dI (A ++ B) = dI A ++ dI B := by unfold dI; rw [List.flatMap_append]
theorem rS {S : List Sp} {v : Value} (h : v ∈ dI S) : v.oneCell' = true := by
 unfold dI at h
 rw [List.mem_flatMap] at h
 obtain ⟨p, _, hp⟩ := h
 simp [spL] at hp
 rcases hp with rfl | rfl | rfl | rfl | rfl | rfl | rfl | rfl <;> rfl
theorem rg (S : List Sp) : ∀ (i r : Nat), i < S.length → r < 8 → (dI S)[i * 8 + r]? = some (.int .i64 (sh (spA S i) r)) := by
 induction S with
 | nil => intro i r hi; simp at hi
 | cons x l ih =>
  intro i r hi hr
  match i with
  | 0 =>
   match r, hr with
   | 0, _ => rfl
   | 1, _ => rfl
   | 2, _ => rfl
   | 3, _ => rfl
   | 4, _ => rfl
   | 5, _ => rfl
   | 6, _ => rfl
   | 7, _ => rfl
  | i + 1 =>
   have h := ih i r (by simpa using hi) hr
   have e : (dI (x :: l))[(i + 1) * 8 + r]? = (dI l)[i * 8 + r]? := by
    rw [show (i + 1) * 8 + r = (i * 8 + r) + 8 by omega]
    rfl
   rw [e, h]
   rfl
theorem sA {w : World} {B g cap n : Nat} {S : List Sp} (h : w.ownsRow B 92 8 (.slice (some ⟨g, 0, none⟩) n cap) n (dI S)) (hn : n = S.length) : aZ w 92 g (n * 8) (bz (spA S)) := by
 subst hn
 rcases h.2 with ⟨h1, h0⟩ | ⟨g', cap', cur, hv, hb, hg, hnc, hcm, hcs, htake⟩
 ·cases h1
 ·injection hv with e1 e2 e3
  injection e1 with e1
  injection e1 with e1
  subst e1
  refine ⟨cur, hg, fun j hj => ?_⟩
  have e := rg S (j / 8) (j % 8) (by omega) (Nat.mod_lt _ (by omega))
  rw [show j / 8 * 8 + j % 8 = j by omega, ← htake, List.getElem?_take, if_pos (by omega)] at e
  simpa [bz] using e
theorem oQ {w : World} {B n : Nat} {v : Value} {t : TypeId} {m : Nat} {xs : List Value} (h : w.ownsRow B t m v n xs) : (v = .slice none 0 0 ∧ n = 0) ∨ ∃ g cap, v = .slice (some ⟨g, 0, none⟩) n cap ∧ B ≤ g ∧ (n ≤ cap ∧ cap ≤ maxLen) := by
 rcases h.2 with ⟨h1, h0⟩ | ⟨g, cap, cur, hv, hb, _, hc1, hc2, _⟩
 ·exact .inl ⟨h1, h0⟩
 ·exact .inr ⟨g, cap, hv, hb, hc1, hc2⟩
theorem en (a : Option Addr) (n cap : Nat) (w : World) (hn : n ≤ 1) :
  Calls Tryz.prog 89 #[.slice a n cap, .func (.func 90) #[] #[]] w fun e w' => e = .returned (.tuple #[]) ∧ w' = w := by
 have h : ¬ (1 : Int) < (n : Int) := by omega
 go_enter Tryz.func89, Tryz.ntmps89
 go_wp2_with fail
 refine wp_loop_rounds 1 ?_
 rw [rounds_succ]
 go_wp2_with fail
 go_end0
 exact ⟨rfl, rfl⟩
def eA (w : World) (B : Nat) (v : Value) (S : List Sp) : Prop := (v = .slice none 0 0 ∧ S = []) ∨ ∃ g cap, v = .slice (some ⟨g, 0, none⟩) S.length cap ∧ (B ≤ g ∧ S.length ≤ cap ∧ cap ≤ maxLen) ∧ aZ w 92 g (S.length * 8) (bz (spA S))
def cZ (w : World) (sb : Nat) (s : St) : Prop := w.heap[sb]? = some (.cells #[.int .i64 s.1, .int .i64 s.2.1, .int .i64 s.2.2.1, .int .i64 s.2.2.2] 62 (0, 0))
theorem cZ.lt {w : World} {sb : Nat} {s : St} (h : cZ w sb s) : sb < w.heap.size := (Array.getElem?_eq_some_iff.1 h).1
theorem cZ.kept {w w' : World} {sb : Nat} {s : St} (h : cZ w sb s) (hB : Below w.heap.size w w') : cZ w' sb s := (hB.block sb h.lt).trans h
theorem cZ.cells {w : World} {sb : Nat} {s : St} (h : cZ w sb s) : w.cell? ⟨sb, 0, none⟩ = some (.int .i64 s.1) ∧ w.cell? ⟨sb, 1, none⟩ = some (.int .i64 s.2.1) ∧ w.cell? ⟨sb, 2, none⟩ = some (.int .i64 s.2.2.1) ∧ w.cell? ⟨sb, 3, none⟩ = some (.int .i64 s.2.2.2) := by
 refine ⟨?_, ?_, ?_, ?_⟩ <;> (rw [cell_of_row w sb _ _ _ _ h]; rfl)
theorem cZ.grown {w w2 : World} {B sb : Nat} {v : Value} {n m : Nat} {xs : List Value} {s : St} (h : cZ w sb s) (ho : w.ownsRow B 92 m v n xs) (hg : w.grownBy w2 v.ownBlock) : cZ w2 sb s := by
 refine (hg.block sb h.lt (fun e => ?_)).trans h
 rcases ho.2 with ⟨rfl, _⟩ | ⟨g, cap, cur, rfl, _, hgb, _⟩
 ·cases e
 ·obtain rfl : sb = g := by simpa [Value.ownBlock] using e
  have := h.symm.trans hgb
  simp at this
theorem je (L : List St) (b o c : Nat) (w : World) (hn : L.length ≤ 12) (hb : b < w.heap.size) (hc : ∀ i, i < L.length → dA w b (o + i * 4) (stA L i)) (hcap : L.length ≤ c) (hc2 : c ≤ maxLen) :
  Calls Tryz.prog 44 #[.slice (some ⟨b, o, none⟩) L.length c] w fun e w' => (∃ v, e = .returned v ∧ eA w' w.heap.size v (bp L L.length)) ∧ Below w.heap.size w w' := by
 obtain ⟨i0, hi, hz0, hz1, hz2⟩ := info_parts qn
 have HLL := yz (iC L hn)
 have HIA := yz (fo L L.length)
 obtain ⟨n, hnl⟩ : ∃ n, L.length = n := ⟨_, rfl⟩
 rw [hnl] at hn hcap hc HLL HIA ⊢
 have HNL := yz hnl
 have HLs : Hid (∀ k, bf L (k + 1) = bf L k ++ fu L k (n - (k + 1))) := yz (by rw [← hnl]; exact fun k => rfl)
 have HC := yz hc
 clear hc hnl
 have hm8 : 400 ≤ maxLen := by decide +kernel
 have hc3 : c ≤ 2 ^ 63 - 1 := by unfold maxLen at hc2; exact hc2
 clear hc2
 go_enter Tryz.func44, Tryz.ntmps44
 go_wp2_with fail
 go_loopw [3, 11] (fun v i wr => ∃ k : Nat, k ≤ n ∧ i = .int .i64 k ∧ Hid (wr.ownsRow w.heap.size 92 8 v (bf L k).length (dI (bf L k))) ∧ Hid (Below w.heap.size w wr)) (fun _ i _ => n - (intOf i).toNat)
 case atStart => exact ⟨0, by omega, rfl, yz (World.ownsRow_nil _ _ _ _), yz (Below.refl _ _)⟩
 case round =>
  obtain ⟨k, hk, rfl, HW, HB⟩ := hrel
  by_cases hkn : k < n
  ·have hkn2 : (k : Int) < (n : Int) := by omega
   have hst := (yy HC k hkn).kept hb (yy HB)
   obtain ⟨s, hs⟩ : ∃ s, s = stA L k := ⟨_, rfl⟩
   rw [← hs] at hst
   have HSk := yz hs
   clear hs
   obtain ⟨s1, s2, s3, s4⟩ := s
   have S1 : Hid (cZ (wr.alloc (.cells #[.int .i64 s1, .int .i64 s2, .int .i64 s3, .int .i64 s4] 62)) wr.heap.size (s1, s2, s3, s4)) := yz (heap_alloc_new wr _)
   have Z1 := am wr (.cells #[.int .i64 s1, .int .i64 s2, .int .i64 s3, .int .i64 s4] 62)
   have W1 := yz (dt (yy HW) Z1)
   have B1 := yz (ak (yy HB) Z1)
   clear Z1 HW HB
   obtain ⟨c0, c1, c2, c3⟩ := hst
   by_cases hkl : k + 1 = n
   ·have W2 : Hid ((wr.alloc (.cells #[.int .i64 s1, .int .i64 s2, .int .i64 s3, .int .i64 s4] 62)).ownsRow w.heap.size 92 8 u3 (bf L (k + 1)).length (dI (bf L (k + 1)))) := yz (by
     rw [yy HLs k, show n - (k + 1) = 0 by omega, show fu L k 0 = [] from rfl, List.append_nil]; exact yy W1)
    clear S1 W1
    go_wp2_with fail
    go_loopw [3, 25] (fun v i wx => i = .int .i64 0 ∧ Hid (wx.ownsRow w.heap.size 92 8 v (bf L (k + 1)).length (dI (bf L (k + 1)))) ∧ Hid (Below w.heap.size w wx)) (fun _ _ _ => 0)
    case atStart => exact ⟨rfl, W2, B1⟩
    case round =>
     clear W2 B1
     obtain ⟨rfl, W2, B1⟩ := hrel
     go_wp2_with fail
     go_roundw
     case rel => exact ⟨k + 1, by omega, by go_num, W2, B1⟩
     case measure => simp [intOf] <;> omega
   ·go_wp2_with fail
    have S1' := yy S1
    have W1' := yy W1
    have B1' := yy B1
    have hsz := B1'.size
    generalize hWe : wr.alloc (.cells #[.int .i64 s1, .int .i64 s2, .int .i64 s3, .int .i64 s4] 62) = W0 at S1' W1' B1' ⊢
    generalize hse : wr.heap.size = sb at S1' ⊢
    have HS1 := yz S1'
    have HW1 := yz W1'
    have HB1 := yz B1'
    clear S1' W1' B1' S1 W1 B1 hWe c0 c1 c2 c3
    obtain ⟨d, hd⟩ : ∃ d, n - (k + 1) = d := ⟨_, rfl⟩
    rw [hd]
    have hd1 : k + 1 + d = n := by omega
    have HD := yz hd
    clear hd hkl
    go_loopw [3, 25] (fun v i wx => ∃ m : Nat, m ≤ d ∧ i = .int .i64 m ∧ Hid (wx.ownsRow w.heap.size 92 8 v (bf L k ++ fu L k m).length (dI (bf L k ++ fu L k m))) ∧ Hid (Below w.heap.size w wx) ∧ Hid (cZ wx sb (s1, s2, s3, s4))) (fun _ i _ => d - (intOf i).toNat)
    case atStart => exact ⟨0, by omega, rfl, by rw [show fu L k 0 = [] from rfl, List.append_nil]; exact HW1, HB1, HS1⟩
    case round =>
     clear HW1 HB1 HS1
     obtain ⟨m, hm, rfl, HW, HB, HS⟩ := hrel
     by_cases hmd : m < d
     ·have hmd2 : (m : Int) < (d : Int) := by omega
      have hst := (yy HC (k + 1 + m) (by omega)).kept hb (yy HB)
      rw [show o + (k + 1 + m) * 4 = o + (k + 1) * 4 + m * 4 by omega] at hst
      obtain ⟨t, ht⟩ : ∃ t, t = stA L (k + 1 + m) := ⟨_, rfl⟩
      rw [← ht] at hst
      have HT := yz ht
      clear ht
      obtain ⟨t1, t2, t3, t4⟩ := t
      obtain ⟨c0, c1, c2, c3⟩ := hst
      obtain ⟨d0, d1, d2, d3⟩ := (yy HS).cells
      have hlt := (yy HS).lt
      have HN : Hid (bf L k ++ fu L k (m + 1) = (bf L k ++ fu L k m) ++ [((s1, t1), (s2, s3, s4), (t2, t3, t4))]) := yz (by
       rw [lH, List.append_assoc]
       unfold bP
       rw [← yy HSk, ← yy HT])
      have hlen : (bf L k ++ fu L k m).length ≤ 160 := by
       rw [List.length_append, nN]
       have := yy HLL k (by omega)
       omega
      generalize hNX : bf L k ++ fu L k (m + 1) = NX at HN
      generalize bf L k ++ fu L k m = O at *
      have Z3 := fk wr (.cells #[.int .i64 t1, .int .i64 t2, .int .i64 t3, .int .i64 t4] 62) (.cells #[.int .i64 s1, .int .i64 t1] 52) (.cells #[.int .i64 s1, .int .i64 t1, .int .i64 s2, .int .i64 s3, .int .i64 s4, .int .i64 t2, .int .i64 t3, .int .i64 t4] 92)
      have hown := dt (yy HW) Z3
      have B3 := ak (yy HB) Z3
      have S3 := yz ((yy HS).kept Z3)
      have hsz3 := Z3.size
      have hsz0 := (yy HB).size
      clear Z3
      go_wp2_with (at_builtin; refine wpList_append_own _ rfl _ _ 76 rfl w.heap.size 92 i0 (.agg #[.int .i64 0, .int .i64 0, .int .i64 0, .int .i64 0, .int .i64 0, .int .i64 0, .int .i64 0, .int .i64 0]) 8 64 Tryz.underlying76 hi hz0 hz1 hz2 rfl (by decide) _ _ _ rfl hown ⟨wr.heap.size + 2, 0, none⟩ 1 1 (dI [((s1, t1), (s2, s3, s4), (t2, t3, t4))]) rfl rfl ?d2 (fun u hu => rS hu) ?d3 ?d4 ?d5 ?_)
      case d2 => exact fun j u h => h
      case d3 => omega
      case d4 => omega
      case d5 => omega
      intro v7 V7 hown7 hgrow7 _
      have hz : w.heap.size ≤ (((wr.alloc (.cells #[.int .i64 t1, .int .i64 t2, .int .i64 t3, .int .i64 t4] 62)).alloc (.cells #[.int .i64 s1, .int .i64 t1] 52)).alloc (.cells #[.int .i64 s1, .int .i64 t1, .int .i64 s2, .int .i64 s3, .int .i64 s4, .int .i64 t2, .int .i64 t3, .int .i64 t4] 92)).heap.size := by omega
      have B7 := yz (lz B3 hown hgrow7 hz)
      have S7 := yz ((yy S3).grown hown hgrow7)
      have W7 : Hid (V7.ownsRow w.heap.size 92 8 v7 NX.length (dI NX)) := yz (by rw [yy HN, qi, List.length_append]; exact hown7)
      subst hNX
      clear hown7 hgrow7 hz hown B3 HN S3
      go_wp2_with fail
      go_roundw
      case rel => exact ⟨m + 1, by omega, by go_num, W7, B7, S7⟩
      case measure => simp [intOf] <;> omega
     ·obtain rfl : m = d := by omega
      have W2 : Hid (wr.ownsRow w.heap.size 92 8 u3 (bf L (k + 1)).length (dI (bf L (k + 1)))) := yz (by rw [yy HLs k, yy HD]; exact yy HW)
      go_wp2_with fail
      go_roundw
      case rel => exact ⟨k + 1, by omega, by go_num, W2, HB⟩
      case measure => simp [intOf] <;> omega
  ·obtain rfl : k = n := by omega
   rcases oQ (yy HW) with ⟨hv, h0⟩ | ⟨g, cap, hv, hg, hc1, hc2⟩
   ·subst hv
    have HE : Hid (bp L k = []) := yz (by rw [← yy HIA]; exact List.eq_nil_of_length_eq_zero (by rw [eX]; exact h0))
    go_wp2_with fail
    refine (en none 0 0 _ (by omega)).mono ?_
    rintro e w1 ⟨rfl, rfl⟩
    go_wp2_with fail
    go_ret
    exact ⟨⟨_, rfl, .inl ⟨rfl, yy HE⟩⟩, yy HB⟩
   ·subst hv
    have hlen : (bf L k).length ≤ 200 := by have := yy HLL k (Nat.le_refl _); omega
    have HR := yz (sA (yy HW) rfl)
    have HA : Hid (cd (bf L k) = bp L k) := HIA
    have HAl : Hid ((bf L k).length = (bp L k).length) := yz (by rw [← yy HA, eX])
    by_cases h1 : (bf L k).length = 0
    ·have HE : Hid (bp L k = []) := yz (List.eq_nil_of_length_eq_zero (by rw [← yy HAl]; exact h1))
     have cP := yz (fun W => en (some ⟨g, 0, none⟩) (bf L k).length cap W (by omega))
     generalize (bf L k).length = ln at *
     subst h1
     have HO : Hid (eA wr w.heap.size (.slice (some ⟨g, 0, none⟩) 0 cap) (bp L k)) := yz (.inr ⟨g, cap, by rw [yy HE]; rfl, ⟨hg, by rw [yy HE]; exact Nat.zero_le _, hc2⟩, by
      have := yy HR
      rw [yy HE]
      exact this.congr (fun j hj => absurd hj (by omega))⟩)
     clear HR
     go_wp2_with fail
     refine (yy cP _).mono ?_
     rintro e w1 ⟨rfl, rfl⟩
     go_wp2_with fail
     go_ret
     exact ⟨⟨_, rfl, yy HO⟩, yy HB⟩
    ·have cP : Hid (∀ W : World, aZ W 92 g ((bf L k).length * 8) (bz (spA (bf L k))) → Calls Tryz.prog 89 #[.slice (some ⟨g, 0, none⟩) (bf L k).length cap, .func (.func 90) #[] #[]] W fun e w' => e = .returned (.tuple #[]) ∧ eA w' w.heap.size (.slice (some ⟨g, 0, none⟩) (bf L k).length cap) (bp L k) ∧ W.grownBy w' (some g)) := yz (fun W hW => (kq (bf L k) g cap W hlen (by omega) hW).mono fun e w' h => ⟨h.1, .inr ⟨g, cap, by rw [yy HAl], ⟨hg, by rw [← yy HAl]; exact hc1, hc2⟩, by rw [← yy HAl, ← yy HA]; exact h.2.1⟩, h.2.2⟩)
     clear HAl HA HIA
     generalize bz (spA (bf L k)) = ff at *
     generalize (bf L k).length = ln at *
     go_wp2_with fail
     refine (yy cP _ (yy HR)).mono ?_
     rintro e w1 ⟨rfl, hs, hgr⟩
     have HO := yz hs
     have HB2 := yz (oF (yy HB) (yy HB).size hgr hg)
     clear hs hgr
     go_wp2_with fail
     go_ret
     exact ⟨⟨_, rfl, yy HO⟩, yy HB2⟩
theorem cM {w : World} {B B' n m : Nat} {t : TypeId} {v : Value} {xs : List Value} (h : w.ownsRow B t m v n xs) (hb : B' ≤ B) : w.ownsRow B' t m v n xs := by
 obtain ⟨h1, h2⟩ := h
 refine ⟨h1, ?_⟩
 rcases h2 with h2 | ⟨g, cap, cur, e, hg, r⟩
 ·exact .inl h2
 ·exact .inr ⟨g, cap, cur, e, by omega, r⟩
theorem hI (w : World) : Calls Tryz.prog 43 #[.slice none 0 0] w fun e w' => e = .returned (.slice none 0 0) ∧ w' = w := by
 go_enter Tryz.func43, Tryz.ntmps43
 go_wp2_with fail
 refine wp_loop_rounds 1 ?_
 rw [rounds_succ]
 go_wp2_with fail
 go_ret
 exact ⟨rfl, rfl⟩
theorem mJ (L : List St) (h : L.length ≤ 12) : (bp L L.length).length ≤ 200 := by
 rw [← fo, eX]
 have := iC L h L.length (Nat.le_refl _)
 omega
theorem oS (S : List Sp) (B : Nat) (v : Value) (w : World) (hn : S.length ≤ 200) (h : eA w B v S) (hB : B ≤ w.heap.size) :
  Calls Tryz.prog 43 #[v] w fun e w' => (∃ v, e = .returned v ∧ w'.ownsRow B 52 2 v (S.map Prod.fst).length (aD (S.map Prod.fst))) ∧ Below w.heap.size w w' := by
 rcases h with ⟨rfl, rfl⟩ | ⟨g, cap, rfl, hg, hr⟩
 ·refine (hI w).mono ?_
  rintro e w' ⟨rfl, rfl⟩
  exact ⟨⟨_, rfl, World.ownsRow_nil _ _ _ _⟩, Below.refl _ _⟩
 ·refine (eF S g 0 cap w hn (fun i hi => by rw [Nat.zero_add]; exact hr.span hi)).mono ?_
  rintro e w' ⟨⟨v, rfl, ho⟩, hx⟩
  refine ⟨⟨v, rfl, ?_⟩, hx⟩
  rw [List.length_map]
  exact cM ho hB
theorem hZ (L : List St) (a : Option Addr) (c : Nat) (w : World) (h : L.length = 0) :
  Calls Tryz.prog 44 #[.slice a L.length c] w fun e w' => (∃ v, e = .returned v ∧ eA w' w.heap.size v (bp L L.length)) ∧ Below w.heap.size w w' := by
 obtain rfl : L = [] := List.eq_nil_of_length_eq_zero h
 show Calls Tryz.prog 44 #[.slice a 0 c] w _
 go_enter Tryz.func44, Tryz.ntmps44
 go_wp2_with fail
 refine wp_loop_rounds 1 ?_
 rw [rounds_succ]
 go_wp2_with fail
 refine (en none 0 0 _ (by omega)).mono ?_
 rintro e w1 ⟨rfl, rfl⟩
 go_wp2_with fail
 go_ret
 exact ⟨⟨_, rfl, .inl ⟨rfl, rfl⟩⟩, Below.refl _ _⟩
theorem nI (L : List St) (a : Option Addr) (c : Nat) (p : Addr) (w : World) (hn : L.length ≤ 1048576) (hcap : L.length ≤ c) (hc : c ≤ maxLen) (hS : aA w a L L.length) (hE : aU p w) :
  Calls Tryz.prog 8 #[.slice a L.length c] w fun e w' => (∃ v, e = .returned v ∧ w'.ownsRow w.heap.size 52 2 v (aC L).length (aD (aC L))) ∧ Below w.heap.size w w' := by
 have c9 : c ≤ 9223372036854775807 := by unfold maxLen at hc; omega
 have cK := yz (fun (W : World) hW hEW => ct L a c p W hn hcap c9 hW hEW)
 have cS : Hid (aB L = true → ∀ W : World, aA W a L L.length → Calls Tryz.prog 44 #[.slice a L.length c] W fun e w' => (∃ v, e = .returned v ∧ eA w' W.heap.size v (bp L L.length)) ∧ Below W.heap.size W w') := yz (fun hk W hW => by
  rcases hW with h0 | ⟨b, o, rfl, hb, hcs⟩
  ·exact hZ L a c W h0
  ·exact je L b o c W (aQ hk).1 hb hcs hcap hc)
 have cP : Hid (aB L = true → ∀ (B : Nat) (v : Value) (W : World), eA W B v (bp L L.length) → B ≤ W.heap.size → Calls Tryz.prog 43 #[v] W fun e w' => (∃ v, e = .returned v ∧ w'.ownsRow B 52 2 v (aC L).length (aD (aC L))) ∧ Below W.heap.size W w') := yz (fun hk B v W hS hB => by
  have e : aC L = (bp L L.length).map Prod.fst := by unfold aC; rw [if_pos hk]; exact (ed hk L.length (Nat.le_refl _)).1.symm
  rw [e]
  exact oS _ B v W (mJ L (aQ hk).1) hS hB)
 have HN : Hid (aB L = false → aC L = []) := yz (fun h => by unfold aC; rw [h]; rfl)
 have HS := yz hS
 have HE := yz hE
 clear hS hE hc c9
 generalize aC L = R at *
 generalize bp L L.length = A at *
 generalize L.length = n at *
 go_enter Tryz.func8, Tryz.ntmps8
 go_wp2_with fail
 refine (yy cK _ (yy HS) (yy HE)).mono ?_
 rintro e w1 ⟨rfl, hx⟩
 have HB := yz hx
 clear hx
 cases hk : aB L
 ·obtain rfl := yy HN hk
  clear hk cP cS
  go_wp2_with fail
  go_ret
  exact ⟨⟨_, rfl, World.ownsRow_nil _ _ _ _⟩, yy HB⟩
 ·have cP' := yz (yy cP hk)
  have cS' := yz (yy cS hk)
  clear hk cP cS
  go_wp2_with fail
  refine (yy cS' _ ((yy HS).kept (yy HB))).mono ?_
  rintro e w2 ⟨⟨v, rfl, hs⟩, hx⟩
  have B2 := yz (ak (yy HB) hx)
  have HSp := yz hs
  have hz := hx.size
  clear hx hs
  go_wp2_with fail
  refine (yy cP' w1.heap.size v _ (yy HSp) hz).mono ?_
  rintro e w3 ⟨⟨v3, rfl, ho⟩, hx⟩
  have B3 := yz (ak (yy B2) hx)
  have W3 : Hid (w3.ownsRow w.heap.size 52 2 v3 R.length (aD R)) := yz (cM ho (yy HB).size)
  clear hx ho
  go_wp2_with fail
  go_ret
  exact ⟨⟨v3, rfl, yy W3⟩, yy B3⟩
def qJ (a b : V3) : Int := dot a.1 a.2.1 a.2.2 b.1 b.2.1 b.2.2
def ru (s : Sp) : Int := ssq (qJ s.2.1 s.2.2)
def qq (s : Sp) : Int := qJ s.2.1 s.2.1 * qJ s.2.2 s.2.2
theorem fQ {x y z : Int} (h : ax x y z = true) : 0 < dot x y z x y z := by
 have hz := (bv.1 h).2
 have h1 : 0 ≤ x * x := by rcases Int.le_total 0 x with h | h; exact Int.mul_nonneg h h; exact Int.mul_nonneg_of_nonpos_of_nonpos h h
 have h2 : 0 ≤ y * y := by rcases Int.le_total 0 y with h | h; exact Int.mul_nonneg h h; exact Int.mul_nonneg_of_nonpos_of_nonpos h h
 have h3 : 0 ≤ z * z := by rcases Int.le_total 0 z with h | h; exact Int.mul_nonneg h h; exact Int.mul_nonneg_of_nonpos_of_nonpos h h
 unfold dot
 by_cases e : 0 < x * x + y * y + z * z
 ·exact e
 ·exfalso
  have e1 : x * x = 0 := by omega
  have e2 : y * y = 0 := by omega
  have e3 : z * z = 0 := by omega
  apply hz
  refine ⟨?_, ?_, ?_⟩
  ·rcases Int.mul_eq_zero.1 e1 with h | h <;> exact h
  ·rcases Int.mul_eq_zero.1 e2 with h | h <;> exact h
  ·rcases Int.mul_eq_zero.1 e3 with h | h <;> exact h
theorem dF {x y z : Int} (h : aO x y z = true) : ax x y z = true := (cu h).1
def bT (s : Sp) : Prop := bU s.2.1 = true ∧ bU s.2.2 = true
theorem ej {s : Sp} (h : bT s) : 0 < qq s := Int.mul_pos (fQ (dF (bw h.1))) (fQ (dF (bw h.2)))
theorem jC {a b : Int} : bS a b ≤ 0 ↔ a ≤ b := by unfold bS; repeat' split <;> omega
theorem sy {a b : Int} : 0 ≤ bS a b ↔ b ≤ a := by unfold bS; repeat' split <;> omega
theorem nH {a b : Int} : bS a b < 0 ↔ a < b := by unfold bS; repeat' split <;> omega
theorem jT {p q : Sp} (hp : bT p) (hq : bT q) : ip p q = bS (ru p * qq q) (ru q * qq p) := by
 unfold ip dH
 rw [bw hp.1, bw hp.2, show aF q.2.1.1 q.2.1.2.1 q.2.1.2.2 = true from hq.1, show aF q.2.2.1 q.2.2.2.1 q.2.2.2.2 = true from hq.2, if_pos (by rfl)]
 rfl
def leS (s t : Sp) : Prop := ru s * qq t ≤ ru t * qq s
theorem mS {a b c m n k : Int} (hm : 0 < m) (hn : 0 < n) (hk : 0 < k) (h1 : a * n ≤ b * m) (h2 : b * k ≤ c * n) : a * k ≤ c * m := by
 have e1 := Int.mul_le_mul_of_nonneg_right h1 (Int.le_of_lt hk)
 have e2 := Int.mul_le_mul_of_nonneg_right h2 (Int.le_of_lt hm)
 apply Int.le_of_mul_le_mul_right (a := n) _ hn
 have a1 : a * k * n = a * n * k := by rw [Int.mul_right_comm]
 have a2 : c * m * n = c * n * m := by rw [Int.mul_right_comm]
 have a3 : b * m * k = b * k * m := by rw [Int.mul_right_comm]
 rw [a1, a2]
 omega
theorem qX {a b c m n k : Int} (hm : 0 < m) (hn : 0 < n) (hk : 0 < k) (h1 : a * n < b * m) (h2 : b * k ≤ c * n) : a * k < c * m := by
 have e1 := Int.mul_lt_mul_of_pos_right h1 hk
 have e2 := Int.mul_le_mul_of_nonneg_right h2 (Int.le_of_lt hm)
 apply Int.lt_of_mul_lt_mul_right (a := n) _ (Int.le_of_lt hn)
 have a1 : a * k * n = a * n * k := by rw [Int.mul_right_comm]
 have a2 : c * m * n = c * n * m := by rw [Int.mul_right_comm]
 have a3 : b * m * k = b * k * m := by rw [Int.mul_right_comm]
 rw [a1, a2]
 omega
theorem leS.trans {s t u : Sp} (hs : bT s) (ht : bT t) (hu : bT u) (h1 : leS s t) (h2 : leS t u) : leS s u := mS (ej hs) (ej ht) (ej hu) h1 h2
theorem sE {s t : Sp} (hs : bT s) (ht : bT t) (h : spB s t = true) : leS s t := by
 unfold spB fy at h
 have h := of_decide_eq_true h
 have hc : 0 ≤ ip t s := by
  by_cases e : ip t s = 0
  ·omega
  ·rw [if_neg e] at h; omega
 rw [jT ht hs, sy] at hc
 exact hc
theorem tk {s t : Sp} (hs : bT s) (ht : bT t) (h : spB s t = false) : leS t s := by
 unfold spB fy at h
 have h := of_decide_eq_false h
 have hc : ip t s ≤ 0 := by
  by_cases e : ip t s = 0
  ·omega
  ·rw [if_neg e] at h; omega
 rw [jT ht hs, jC] at hc
 exact hc
theorem iQ (s : Sp) (S : List Sp) : ∀ n i, bI s S n ≤ i → i < n → spB s (spA S i) = true
 | 0, i, _, hi => absurd hi (Nat.not_lt_zero _)
 | n + 1, i, hb, hi => by
  unfold bI at hb
  split at hb
  ·rename_i h
   by_cases e : i = n
   ·rw [e]; exact h
   ·exact iQ s S n i hb (by omega)
  ·omega
theorem mM (s : Sp) (S : List Sp) : ∀ n, 0 < bI s S n → spB s (spA S (bI s S n - 1)) = false
 | 0, h => absurd h (by simp [bI])
 | n + 1, h => by
  unfold bI at h ⊢
  split
  ·rename_i e
   rw [if_pos e] at h
   exact mM s S n h
  ·rename_i e
   simpa using e
def fP (S : List Sp) : Prop := ∀ i j, i < j → j < S.length → leS (spA S i) (spA S j)
def jO (S : List Sp) : Prop := ∀ i, i < S.length → bT (spA S i)
theorem oK {s : Sp} {S : List Sp} (hs : bT s) (hS : jO S) (h : fP S) : fP (gq s S) := by
 intro i j hij hj
 rw [nt] at hj
 have hb := fj s S S.length
 have ha := iQ s S S.length
 have hk := mM s S S.length
 rw [ky s S (spA S) i (by omega), ky s S (spA S) j (by omega)]
 generalize bI s S S.length = k at *
 have up : ∀ q, k ≤ q → q < S.length → leS s (spA S q) := fun q h1 h2 => sE hs (hS q h2) (ha q h1 h2)
 have dn : ∀ q, q < k → leS (spA S q) s := fun q h1 => by
  have e := tk hs (hS (k - 1) (by omega)) (hk (by omega))
  by_cases e2 : q = k - 1
  ·rw [e2]; exact e
  ·exact leS.trans (hS q (by omega)) (hS (k - 1) (by omega)) hs (h q (k - 1) (by omega) (by omega)) e
 unfold eN
 by_cases i1 : i < k
 ·rw [if_pos i1]
  by_cases j1 : j < k
  ·rw [if_pos j1]; exact h i j hij (by omega)
  ·rw [if_neg j1]
   by_cases j2 : j = k
   ·rw [if_pos j2]; exact dn i i1
   ·rw [if_neg j2, if_pos (by omega)]; exact h i (j - 1) (by omega) (by omega)
 ·rw [if_neg i1, if_neg (show ¬ j < k by omega), if_neg (show ¬ j = k by omega), if_pos (show j ≤ S.length by omega)]
  by_cases i2 : i = k
  ·rw [if_pos i2]; exact up (j - 1) (by omega) (by omega)
  ·rw [if_neg i2, if_pos (by omega)]; exact h (i - 1) (j - 1) (by omega) (by omega)
theorem eV {L : List St} (h : aB L = true) {s : Sp} (hs : eC L s) : bT s := by
 obtain ⟨i, j, hi, hj, rfl⟩ := hs
 exact ⟨ck ((aQ h).2 i hi), ck ((aQ h).2 j hj)⟩
theorem nV {L : List St} (h : aB L = true) {S : List Sp} (hS : ∀ t ∈ S, eC L t) : jO S := fun i hi => eV h (hS _ (jG hi).1)
theorem ku {L : List St} (h : aB L = true) {S : List Sp} (hS : ∀ t ∈ S, eC L t) (hs : fP S) {i : Nat} (hi : i < L.length) : ∀ m, i + m < L.length → fP (pe L S i m)
 | 0, _ => hs
 | m + 1, hm => by
  have g := (kt h hS hi m (by omega)).2
  exact oK (eV h ⟨i, i + 1 + m, hi, by omega, rfl⟩) (nV h g) (ku h hS hs hi m (by omega))
theorem gl {L : List St} (h : aB L = true) : ∀ i, i ≤ L.length → fP (bp L i)
 | 0, _ => fun i j _ hj => absurd hj (by simp [bp])
 | i + 1, hi => by
  rw [bp]
  exact ku h (ed h i (by omega)).2 (gl h i (by omega)) (by omega) _ (by omega)
def bZ (a b : V3) (s : Sp) : Int := dH a.1 a.2.1 a.2.2 b.1 b.2.1 b.2.2 s.2.1.1 s.2.1.2.1 s.2.1.2.2 s.2.2.1 s.2.2.2.1 s.2.2.2.2
def bM (v : V3) : Bool := aO v.1 v.2.1 v.2.2
theorem gH {a b : V3} {s : Sp} (ha : bM a = true) (hb : bM b = true) (hs : bT s) : bZ a b s = bS (ssq (qJ a b) * qq s) (ru s * (qJ a a * qJ b b)) := by
 unfold bZ dH
 rw [show aO a.1 a.2.1 a.2.2 = true from ha, show aO b.1 b.2.1 b.2.2 = true from hb, show aF s.2.1.1 s.2.1.2.1 s.2.1.2.2 = true from hs.1, show aF s.2.2.1 s.2.2.2.1 s.2.2.2.2 = true from hs.2, if_pos (by rfl)]
 rfl
theorem sk {a b : V3} {s t : Sp} (ha : bM a = true) (hb : bM b = true) (hs : bT s) (ht : bT t) (h : leS s t) (h1 : bZ a b s ≤ 0) : bZ a b t ≤ 0 := by
 have hd := Int.mul_pos (fQ (dF ha)) (fQ (dF hb))
 rw [gH ha hb hs, jC] at h1
 rw [gH ha hb ht, jC]
 exact mS hd (ej hs) (ej ht) h1 h
theorem sl {a b : V3} {s t : Sp} (ha : bM a = true) (hb : bM b = true) (hs : bT s) (ht : bT t) (h : leS s t) (h1 : bZ a b s < 0) : bZ a b t < 0 := by
 have hd := Int.mul_pos (fQ (dF ha)) (fQ (dF hb))
 rw [gH ha hb hs, nH] at h1
 rw [gH ha hb ht, nH]
 exact qX hd (ej hs) (ej ht) h1 h
theorem iS {α : Type} {p : α → Bool} {l : List α} (h : ∀ x ∈ l, p x = false) : l.filter p = [] := by
 rw [List.filter_eq_nil_iff]
 intro x hx
 rw [h x hx]
 simp
theorem pX {a b : V3} {S : List Sp} (ha : bM a = true) (hb : bM b = true) (hS : jO S) (hs : fP S) {f t : Nat} (hft : f ≤ t) (ht : t ≤ S.length)
  (h1 : ∀ i, i < f → 0 < bZ a b (spA S i)) (h2 : f = S.length ∨ bZ a b (spA S f) ≤ 0) (h3 : ∀ i, f ≤ i → i < t → bZ a b (spA S i) = 0) (h4 : t = S.length ∨ bZ a b (spA S t) ≠ 0) :
  S.filter (fun s => decide (bZ a b s = 0)) = (S.drop f).take (t - f) := by
 have cut : S = S.take f ++ ((S.drop f).take (t - f) ++ S.drop t) := by
  have e : S.drop t = (S.drop f).drop (t - f) := by rw [List.drop_drop]; congr 1; omega
  rw [e, List.take_append_drop, List.take_append_drop]
 have at_ : ∀ {i : Nat} (hi : i < S.length), spA S i = S[i] := fun hi => by unfold spA; rw [List.getD, List.getElem?_eq_getElem hi]; rfl
 have p1 : (S.take f).filter (fun s => decide (bZ a b s = 0)) = [] := iS (fun x hx => by
  obtain ⟨i, hi, rfl⟩ := List.getElem_of_mem hx
  have hi' : i < f := by have := hi; simp at this; omega
  have := h1 i hi'
  rw [at_ (by omega)] at this
  rw [List.getElem_take]
  exact decide_eq_false (by omega))
 have p2 : ((S.drop f).take (t - f)).filter (fun s => decide (bZ a b s = 0)) = (S.drop f).take (t - f) := by
  rw [List.filter_eq_self]
  intro x hx
  obtain ⟨i, hi, rfl⟩ := List.getElem_of_mem hx
  have hi' : i < t - f := by have := hi; simp at this; omega
  have := h3 (f + i) (by omega) (by omega)
  rw [at_ (by omega)] at this
  rw [List.getElem_take, List.getElem_drop]
  exact decide_eq_true this
 have p3 : (S.drop t).filter (fun s => decide (bZ a b s = 0)) = [] := iS (fun x hx => by
  obtain ⟨i, hi, rfl⟩ := List.getElem_of_mem hx
  have hi' : t + i < S.length := by have := hi; simp at this; omega
  have ht0 : bZ a b (spA S t) < 0 := by
   rcases h4 with h4 | h4
   ·omega
   ·have : bZ a b (spA S t) ≤ 0 := by
     rcases h2 with h2 | h2
     ·omega
     ·by_cases e : t = f
      ·rw [e]; exact h2
      ·exact sk ha hb (hS f (by omega)) (hS t (by omega)) (hs f t (by omega) (by omega)) h2
    omega
  have : bZ a b (spA S (t + i)) < 0 := by
   by_cases e : i = 0
   ·rw [e, Nat.add_zero]; exact ht0
   ·exact sl ha hb (hS t (by omega)) (hS (t + i) (by omega)) (hs t (t + i) (by omega) (by omega)) ht0
  rw [at_ (by omega)] at this
  rw [List.getElem_drop]
  exact decide_eq_false (by omega))
 rw [cut, List.filter_append, List.filter_append, p1, p2, p3, List.nil_append, List.append_nil]
 rw [← cut]
def fD (L : List St) (a b : V3) : Bool := aB L && bM a && bM b
def aP (L : List St) (a b : V3) : List P2 := if fD L a b = true then ((bp L L.length).filter (fun s => decide (bZ a b s = 0))).map Prod.fst else []
theorem li {L : List St} {a b : V3} (h : aB L = false) : aP L a b = [] := by unfold aP fD; rw [h]; rfl
theorem lj {L : List St} {a b : V3} (h : bM a = false) : aP L a b = [] := by unfold aP fD; rw [h]; simp
theorem lk {L : List St} {a b : V3} (h : bM b = false) : aP L a b = [] := by unfold aP fD; rw [h]; simp
theorem ik {L : List St} {a b : V3} (h : aB L = true) (h1 : bM a = true) (h2 : bM b = true) : aP L a b = ((bp L L.length).filter (fun s => decide (bZ a b s = 0))).map Prod.fst := by unfold aP fD; rw [h, h1, h2]; rfl
end
end Go.Proofs.YthoiooefclbecaaGreatDoor
