/- putInOrder over spans: the program's. -/
import Derived.Test.YthmelofbdbplnaaDoorPairP
import Derived.Test.YthmelofbdbplnaaDoorRowF
import Derived.BigRegion
namespace Go.Proofs.YthmelofbdbplnaaDoor
open Go.RowKit Go.Sort
set_option linter.unusedVariables false

theorem RowAt.span {w : World} {t : TypeId} {g n i : Nat} {m : Nat → Sp} (h : RowAt w t g (n * 8) (cellF m)) (hi : i < n) : SpOff w g (i * 8) (m i) := by
  have c : ∀ r, r < 8 → w.cell? ⟨g, i * 8 + r, none⟩ = some (.int .i64 (comp (m i) r)) := fun r hr => by
    rw [h.cell (j := i * 8 + r) (by omega)]
    unfold cellF
    rw [show (i * 8 + r) / 8 = i by omega, show (i * 8 + r) % 8 = r by omega]
  exact ⟨c 0 (by omega), c 1 (by omega), c 2 (by omega), c 3 (by omega), c 4 (by omega), c 5 (by omega), c 6 (by omega), c 7 (by omega)⟩
theorem grownBelowG {w w1 w2 : World} {row : Option Nat} (h : w.grownBy w1 row) (hB : Below w1.heap.size w1 w2) : w.grownBy w2 row :=
  ⟨by rw [hB.os]; exact h.os, by rw [hB.tape]; exact h.tape, by rw [hB.output]; exact h.output, Nat.le_trans h.size hB.size, fun k hk hne => by rw [hB.block k (Nat.lt_of_lt_of_le hk h.size)]; exact h.block k hk hne⟩
theorem RowAt.drewn {w : World} {t : TypeId} {g m : Nat} {f : Nat → Int} (h : RowAt w t g m f) : RowAt w.drew t g m f := h.same rfl
theorem grown_drew {w W : World} {row : Option Nat} (h : w.grownBy W row) : w.grownBy W.drew row := ⟨h.os, h.tape, h.output, h.size, h.block⟩
/-- the rows that a swap leaves -/
theorem swap_cells {j : Nat} {P : List Sp} {s : Sp} {R : Nat → Sp} (hj : j < P.length) {x1 x2 x3 x4 x5 x6 x7 x8 y1 y2 y3 y4 y5 y6 y7 y8 : Int} (hx : ((x1, x2), (x3, x4, x5), x6, x7, x8) = spA P j) (hy : ((y1, y2), (y3, y4, y5), y6, y7, y8) = s) (q : Nat) :
    (if q = (j + 1) * 8 + 7 then x8 else if q = (j + 1) * 8 + 6 then x7 else if q = (j + 1) * 8 + 5 then x6 else if q = (j + 1) * 8 + 4 then x5 else if q = (j + 1) * 8 + 3 then x4 else if q = (j + 1) * 8 + 2 then x3 else if q = (j + 1) * 8 + 1 then x2 else if q = (j + 1) * 8 then x1 else if q = j * 8 + 7 then y8 else if q = j * 8 + 6 then y7 else if q = j * 8 + 5 then y6 else if q = j * 8 + 4 then y5 else if q = j * 8 + 3 then y4 else if q = j * 8 + 2 then y3 else if q = j * 8 + 1 then y2 else if q = j * 8 then y1 else cellF (midF P s R (j + 1)) q) = cellF (midF P s R j) q := by
  unfold cellF
  rw [midF_step P s R j hj (q / 8), ← hx, ← hy]
  by_cases h1 : q / 8 = j + 1
  · have hr : q % 8 < 8 := Nat.mod_lt _ (by omega)
    have hq : q = j * 8 + 8 + q % 8 := by omega
    rw [if_neg (show ¬ q / 8 = j by omega), if_pos h1]
    generalize q % 8 = r at hr hq
    subst hq
    match r, hr with
    | 0, _ => (repeat (first | rw [if_neg (by omega)] | rw [if_pos (by omega)])); rfl
    | 1, _ => (repeat (first | rw [if_neg (by omega)] | rw [if_pos (by omega)])); rfl
    | 2, _ => (repeat (first | rw [if_neg (by omega)] | rw [if_pos (by omega)])); rfl
    | 3, _ => (repeat (first | rw [if_neg (by omega)] | rw [if_pos (by omega)])); rfl
    | 4, _ => (repeat (first | rw [if_neg (by omega)] | rw [if_pos (by omega)])); rfl
    | 5, _ => (repeat (first | rw [if_neg (by omega)] | rw [if_pos (by omega)])); rfl
    | 6, _ => (repeat (first | rw [if_neg (by omega)] | rw [if_pos (by omega)])); rfl
    | 7, _ => (repeat (first | rw [if_neg (by omega)] | rw [if_pos (by omega)])); rfl
  · by_cases h2 : q / 8 = j
    · have hr : q % 8 < 8 := Nat.mod_lt _ (by omega)
      have hq : q = j * 8 + q % 8 := by omega
      rw [if_pos h2]
      generalize q % 8 = r at hr hq
      subst hq
      match r, hr with
      | 0, _ => (repeat (first | rw [if_neg (by omega)] | rw [if_pos (by omega)])); rfl
      | 1, _ => (repeat (first | rw [if_neg (by omega)] | rw [if_pos (by omega)])); rfl
      | 2, _ => (repeat (first | rw [if_neg (by omega)] | rw [if_pos (by omega)])); rfl
      | 3, _ => (repeat (first | rw [if_neg (by omega)] | rw [if_pos (by omega)])); rfl
      | 4, _ => (repeat (first | rw [if_neg (by omega)] | rw [if_pos (by omega)])); rfl
      | 5, _ => (repeat (first | rw [if_neg (by omega)] | rw [if_pos (by omega)])); rfl
      | 6, _ => (repeat (first | rw [if_neg (by omega)] | rw [if_pos (by omega)])); rfl
      | 7, _ => (repeat (first | rw [if_neg (by omega)] | rw [if_pos (by omega)])); rfl
    · rw [if_neg h2, if_neg h1]
      repeat rw [if_neg (by omega)]

def spV (s : Sp) : Value := .agg #[.int .i64 s.1.1, .int .i64 s.1.2, .int .i64 s.2.1.1, .int .i64 s.2.1.2.1, .int .i64 s.2.1.2.2, .int .i64 s.2.2.1, .int .i64 s.2.2.2.1, .int .i64 s.2.2.2.2]
/-- what a round leaves, once j stands where s belongs -/
theorem out_row {S P : List Sp} {s : Sp} {k j : Nat} (hP : P = insAll (S.take k)) (hs : s = spA S k) (hk : k < S.length) (hl : P.length = k) (hj : j = backS s P k) (q : Nat) :
    cellF (midF P s (spA S) j) q = cellF (fun q => if q < k + 1 then spA (insAll (S.take (k + 1))) q else spA S q) q := by
  unfold cellF
  by_cases h : q / 8 < k + 1
  · simp only [if_pos h]
    rw [insAll_take S k hk, ← hP, ← hs, spA_insS s P (spA S) (q / 8) (by omega), hl, hj]
  · simp only [if_neg h]
    have hb := backS_le s P k
    unfold midF
    rw [if_neg (by omega), if_neg (by omega), if_neg (by omega)]

set_option maxHeartbeats 1000000 in
theorem swap_row {W : World} {t : TypeId} {g n m : Nat} {P : List Sp} {s : Sp} {R : Nat → Sp} (hm : m < P.length) {x1 x2 x3 x4 x5 x6 x7 x8 y1 y2 y3 y4 y5 y6 y7 y8 : Int} (hx : ((x1, x2), (x3, x4, x5), x6, x7, x8) = spA P m) (hy : ((y1, y2), (y3, y4, y5), y6, y7, y8) = s) (h : RowAt W t g (n * 8) (cellF (midF P s R (m + 1)))) :
    RowAt (((((((((((((((((W.setCell ⟨g, m * 8, none⟩ (.int .i64 y1)).setCell ⟨g, m * 8 + 1, none⟩ (.int .i64 y2)).setCell ⟨g, m * 8 + 2, none⟩ (.int .i64 y3)).setCell ⟨g, m * 8 + 3, none⟩ (.int .i64 y4)).setCell ⟨g, m * 8 + 4, none⟩ (.int .i64 y5)).setCell ⟨g, m * 8 + 5, none⟩ (.int .i64 y6)).setCell ⟨g, m * 8 + 6, none⟩ (.int .i64 y7)).setCell ⟨g, m * 8 + 7, none⟩ (.int .i64 y8)).setCell ⟨g, (m + 1) * 8, none⟩ (.int .i64 x1)).setCell ⟨g, (m + 1) * 8 + 1, none⟩ (.int .i64 x2)).setCell ⟨g, (m + 1) * 8 + 2, none⟩ (.int .i64 x3)).setCell ⟨g, (m + 1) * 8 + 3, none⟩ (.int .i64 x4)).setCell ⟨g, (m + 1) * 8 + 4, none⟩ (.int .i64 x5)).setCell ⟨g, (m + 1) * 8 + 5, none⟩ (.int .i64 x6)).setCell ⟨g, (m + 1) * 8 + 6, none⟩ (.int .i64 x7)).setCell ⟨g, (m + 1) * 8 + 7, none⟩ (.int .i64 x8)).drew) t g (n * 8) (cellF (midF P s R m)) := by
  have r := ((((((((((((((((h.set (m * 8) y1).set (m * 8 + 1) y2).set (m * 8 + 2) y3).set (m * 8 + 3) y4).set (m * 8 + 4) y5).set (m * 8 + 5) y6).set (m * 8 + 6) y7).set (m * 8 + 7) y8).set ((m + 1) * 8) x1).set ((m + 1) * 8 + 1) x2).set ((m + 1) * 8 + 2) x3).set ((m + 1) * 8 + 3) x4).set ((m + 1) * 8 + 4) x5).set ((m + 1) * 8 + 5) x6).set ((m + 1) * 8 + 6) x7).set ((m + 1) * 8 + 7) x8)
  have r2 := r.congr (f' := cellF (midF P s R m)) (fun q _ => swap_cells hm hx hy q)
  exact r2.drewn
theorem swap_grown {w W : World} {g m : Nat} (h : w.grownBy W (some g)) (x1 x2 x3 x4 x5 x6 x7 x8 y1 y2 y3 y4 y5 y6 y7 y8 : Int) :
    w.grownBy (((((((((((((((((W.setCell ⟨g, m * 8, none⟩ (.int .i64 y1)).setCell ⟨g, m * 8 + 1, none⟩ (.int .i64 y2)).setCell ⟨g, m * 8 + 2, none⟩ (.int .i64 y3)).setCell ⟨g, m * 8 + 3, none⟩ (.int .i64 y4)).setCell ⟨g, m * 8 + 4, none⟩ (.int .i64 y5)).setCell ⟨g, m * 8 + 5, none⟩ (.int .i64 y6)).setCell ⟨g, m * 8 + 6, none⟩ (.int .i64 y7)).setCell ⟨g, m * 8 + 7, none⟩ (.int .i64 y8)).setCell ⟨g, (m + 1) * 8, none⟩ (.int .i64 x1)).setCell ⟨g, (m + 1) * 8 + 1, none⟩ (.int .i64 x2)).setCell ⟨g, (m + 1) * 8 + 2, none⟩ (.int .i64 x3)).setCell ⟨g, (m + 1) * 8 + 3, none⟩ (.int .i64 x4)).setCell ⟨g, (m + 1) * 8 + 4, none⟩ (.int .i64 x5)).setCell ⟨g, (m + 1) * 8 + 5, none⟩ (.int .i64 x6)).setCell ⟨g, (m + 1) * 8 + 6, none⟩ (.int .i64 x7)).setCell ⟨g, (m + 1) * 8 + 7, none⟩ (.int .i64 x8)).drew) (some g) := by
  have r := grownSet (grownSet (grownSet (grownSet (grownSet (grownSet (grownSet (grownSet (grownSet (grownSet (grownSet (grownSet (grownSet (grownSet (grownSet (grownSet h (m * 8) (.int .i64 y1)) (m * 8 + 1) (.int .i64 y2)) (m * 8 + 2) (.int .i64 y3)) (m * 8 + 3) (.int .i64 y4)) (m * 8 + 4) (.int .i64 y5)) (m * 8 + 5) (.int .i64 y6)) (m * 8 + 6) (.int .i64 y7)) (m * 8 + 7) (.int .i64 y8)) ((m + 1) * 8) (.int .i64 x1)) ((m + 1) * 8 + 1) (.int .i64 x2)) ((m + 1) * 8 + 2) (.int .i64 x3)) ((m + 1) * 8 + 3) (.int .i64 x4)) ((m + 1) * 8 + 4) (.int .i64 x5)) ((m + 1) * 8 + 5) (.int .i64 x6)) ((m + 1) * 8 + 6) (.int .i64 x7)) ((m + 1) * 8 + 7) (.int .i64 x8)
  exact grown_drew r

set_option maxHeartbeats 4000000 in
set_option maxRecDepth 100000 in
theorem putInOrder_any (S : List Sp) (g cap : Nat) (w : World) (hn : S.length ≤ 200) (hn1 : 1 ≤ S.length) (hR : RowAt w 56 g (S.length * 8) (cellF (spA S))) :
    Calls Tryd.prog 38 #[.slice (some ⟨g, 0, none⟩) S.length cap, .func (.func 39) #[] #[]] w fun e w' => e = .returned (.tuple #[]) ∧ RowAt w' 56 g (S.length * 8) (cellF (spA (insAll S))) ∧ w.grownBy w' (some g) := by
  obtain ⟨n, hnl⟩ : ∃ n, S.length = n := ⟨_, rfl⟩
  rw [hnl] at hn hR hn1 ⊢
  have HL := hide hnl
  have HR := hide hR
  clear hnl hR
  go_enter Tryd.func38, Tryd.ntmps38
  go_wp2_with fail
  go_loopw [4] (fun i wr => ∃ k : Nat, 1 ≤ k ∧ k ≤ n ∧ i = .int .i64 k ∧ Hid (RowAt wr 56 g (n * 8) (cellF (fun q => if q < k then spA (insAll (S.take k)) q else spA S q))) ∧ Hid (w.grownBy wr (some g))) (fun i _ => n - (intOf i).toNat)
  case atStart =>
    refine ⟨1, by omega, by omega, rfl, hide ((unhide HR).congr (fun q hq => ?_)), hide (grownRefl w _)⟩
    unfold cellF
    by_cases h : q / 8 < 1
    · simp only [if_pos h]
      have e : S.take 1 = [spA S 0] := by rw [take_snocS S 0 (by rw [unhide HL]; omega)]; rfl
      rw [e, show q / 8 = 0 by omega]
      rfl
    · simp only [if_neg h]
  case round =>
    obtain ⟨k, hk1, hk, rfl, HW, HG⟩ := hrel
    by_cases hkn : k < n
    · have hkn2 : (k : Int) < (n : Int) := by omega
      obtain ⟨P, hP⟩ : ∃ P, P = insAll (S.take k) := ⟨_, rfl⟩
      obtain ⟨s, hs⟩ : ∃ s, s = spA S k := ⟨_, rfl⟩
      have HP := hide hP
      have HSs := hide hs
      have hPl : P.length = k := by rw [hP, insAll_len, List.length_take]; have := unhide HL; omega
      have HPl := hide hPl
      clear hP hs hPl
      go_wp2_with fail
      go_loopw [5] (fun i wx => ∃ j : Nat, j ≤ k ∧ i = .int .i64 j ∧ Hid (RowAt wx 56 g (n * 8) (cellF (midF P s (spA S) j))) ∧ Hid (backS s P j = backS s P k) ∧ Hid (w.grownBy wx (some g))) (fun i _ => (intOf i).toNat)
      case atStart =>
        refine ⟨k, Nat.le_refl _, rfl, hide ((unhide HW).congr (fun q hq => ?_)), hide rfl, HG⟩
        unfold cellF
        have e := midF_first P s (spA S) (q / 8)
        rw [unhide HPl] at e
        rw [e, unhide HP]
        by_cases h1 : q / 8 < k
        · simp only [if_pos h1]
        · by_cases h2 : q / 8 = k
          · rw [if_neg h1, if_pos h2, unhide HSs]
            show comp (if q / 8 < k then _ else _) _ = _
            rw [if_neg h1, h2]
          · simp only [if_neg h1, if_neg h2]
      case round =>
        obtain ⟨j, hj, rfl, HX, HK, HG2⟩ := hrel
        clear HW HG
        rcases Nat.eq_zero_or_pos j with hj0 | hj0
        · subst hj0
          have HO : Hid (RowAt wr 56 g (n * 8) (cellF (fun q => if q < k + 1 then spA (insAll (S.take (k + 1))) q else spA S q))) := hide ((unhide HX).congr (fun q hq => out_row (unhide HP) (unhide HSs) (by rw [unhide HL]; exact hkn) (unhide HPl) (by rw [← unhide HK]; rfl) q))
          go_wp2_with fail
          refine wp_region_quiet_below (by kernel_rfl) (by kernel_rfl) ?_
          repeat (go_big_quiet_step (fail))
          refine wpQuiet_nil ?_
          intro _ hw'
          obtain ⟨⟨dq, osq⟩, hw''⟩ := hw'
          subst hw''
          have hx := below_regrown wr dq osq
          have HO2 := hide ((unhide HO).kept hx)
          have HG3 := hide (grownBelowG (unhide HG2) hx)
          generalize grow (redrawn wr dq) osq = W2 at hx HO2 HG3 ⊢
          clear hx
          go_wp2_with fail
          go_roundw
          case rel => exact ⟨k + 1, by omega, by omega, by go_num, HO2, HG3⟩
          case measure => simp [intOf] <;> omega
        · obtain ⟨m, rfl⟩ : ∃ m, j = m + 1 := ⟨j - 1, by omega⟩
          have s1 := (unhide HX).span (i := m) (by omega)
          have s2 := (unhide HX).span (i := m + 1) (by omega)
          rw [midF_before] at s1
          rw [midF_at] at s2
          obtain ⟨x, hx⟩ : ∃ x, x = spA P m := ⟨_, rfl⟩
          rw [← hx] at s1
          have HXe := hide hx
          clear hx
          obtain ⟨y, hy⟩ : ∃ y, y = s := ⟨_, rfl⟩
          rw [← hy] at s2
          have HYe := hide hy
          clear hy
          have HB : Hid (spB s (spA P m) = decide (0 < spanI x y)) := hide (by rw [unhide HXe, unhide HYe]; rfl)
          obtain ⟨⟨x1, x2⟩, ⟨x3, x4, x5⟩, x6, x7, x8⟩ := x
          obtain ⟨⟨y1, y2⟩, ⟨y3, y4, y5⟩, y6, y7, y8⟩ := y
          have cC := hide (fun W => spanOrder_any x1 x2 x3 x4 x5 x6 x7 x8 y1 y2 y3 y4 y5 y6 y7 y8 W)
          generalize spanI ((x1, x2), (x3, x4, x5), x6, x7, x8) ((y1, y2), (y3, y4, y5), y6, y7, y8) = c at cC HB
          obtain ⟨a0, a1, a2, a3, a4, a5, a6, a7⟩ := s1
          obtain ⟨b0, b1, b2, b3, b4, b5, b6, b7⟩ := s2
          have ra0 := cell_regrown a0
          have ra1 := cell_regrown a1
          have ra2 := cell_regrown a2
          have ra3 := cell_regrown a3
          have ra4 := cell_regrown a4
          have ra5 := cell_regrown a5
          have ra6 := cell_regrown a6
          have ra7 := cell_regrown a7
          have rb0 := cell_regrown b0
          have rb1 := cell_regrown b1
          have rb2 := cell_regrown b2
          have rb3 := cell_regrown b3
          have rb4 := cell_regrown b4
          have rb5 := cell_regrown b5
          have rb6 := cell_regrown b6
          have rb7 := cell_regrown b7
          clear a0 a1 a2 a3 a4 a5 a6 a7 b0 b1 b2 b3 b4 b5 b6 b7
          have i1 : (m : Int) < (n : Int) := by omega
          have i2 : (m : Int) + 1 < (n : Int) := by omega
          have i3 : (0 : Int) < (m : Int) + 1 := by omega
          go_wp2_with fail
          refine wp_region_quiet_below (by kernel_rfl) (by kernel_rfl) ?_
          repeat (go_big_quiet_step (first | (with_reducible exact Calls.regrown_of (unhide cC _))))
          refine wpQuiet_nil ?_
          intro _ hw'
          obtain ⟨⟨dq, osq⟩, hw''⟩ := hw'
          subst hw''
          have hx := below_regrown wr dq osq
          have HX2 := hide ((unhide HX).kept hx)
          have HG3 := hide (grownBelowG (unhide HG2) hx)
          generalize grow (redrawn wr dq) osq = W2 at hx HX2 HG3 ⊢
          clear hx ra0 ra1 ra2 ra3 ra4 ra5 ra6 ra7 rb0 rb1 rb2 rb3 rb4 rb5 rb6 rb7 HX HG2
          by_cases hc : 0 < c
          · have s1 := (unhide HX2).span (i := m) (by omega)
            have s2 := (unhide HX2).span (i := m + 1) (by omega)
            rw [midF_before, ← unhide HXe] at s1
            rw [midF_at, ← unhide HYe] at s2
            obtain ⟨a0, a1, a2, a3, a4, a5, a6, a7⟩ := s1
            obtain ⟨b0, b1, b2, b3, b4, b5, b6, b7⟩ := s2
            have fr := (unhide HX2).free
            go_wp2_with fail
            have HX3 := hide (swap_row (by rw [unhide HPl]; omega) (unhide HXe) (unhide HYe) (unhide HX2))
            have HG4 := hide (swap_grown (m := m) (unhide HG3) x1 x2 x3 x4 x5 x6 x7 x8 y1 y2 y3 y4 y5 y6 y7 y8)
            have HK2 : Hid (backS s P m = backS s P k) := hide (by rw [← unhide HK]; exact (backS_step s P m (by rw [unhide HB]; simpa using hc)).symm)
            go_region
            go_wp2_with fail
            go_roundw
            case rel => exact ⟨m, by omega, by go_num, HX3, HK2, HG4⟩
            case measure => simp [intOf] <;> omega
          · have HO : Hid (RowAt W2 56 g (n * 8) (cellF (fun q => if q < k + 1 then spA (insAll (S.take (k + 1))) q else spA S q))) := hide ((unhide HX2).congr (fun q hq => out_row (unhide HP) (unhide HSs) (by rw [unhide HL]; exact hkn) (unhide HPl) (by rw [← unhide HK]; exact (backS_stop s P m (by rw [unhide HB]; simpa using hc)).symm) q))
            go_wp2_with fail
            go_roundw
            case rel => exact ⟨k + 1, by omega, by omega, by go_num, HO, HG3⟩
            case measure => simp [intOf] <;> omega
    · have hkn' : k = n := by omega
      subst hkn'
      go_wp2_with fail
      go_end0
      refine ⟨rfl, (unhide HW).congr (fun q hq => ?_), unhide HG⟩
      unfold cellF
      have hq8 : q / 8 < k := by omega
      simp only [if_pos hq8]
      rw [← unhide HL, List.take_length]
end Go.Proofs.YthmelofbdbplnaaDoor
