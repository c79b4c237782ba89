/- Several texts in one: FfC. -/
import Derived.Test.YtackifnnhjbgbaaQFnFrameOwn7
import Derived.Test.YtackifnnhjbgbaaQFnFrameOwn8
import Derived.Test.YtackifnnhjbgbaaQFnFrameOwn9
import Derived.Test.YtackifnnhjbgbaaQFnFrameOwn22
import Derived.Test.YtackifnnhjbgbaaQFnFrameOwn28
import Derived.Test.YtackifnnhjbgbaaQFnFrameOwn29
import Derived.Test.YtackifnnhjbgbaaQFnFrameOwn30
namespace Go.Proofs.Ytackifnnhjbgbaa
set_option linter.unusedVariables false
set_option linter.unusedSimpArgs false
set_option maxRecDepth 100000
set_option maxHeartbeats 8000000
section
open Go.RowKit Go.Sort
theorem iF (wd ht : Int) (s : ByteArray) (hs : s.size ≤ maxLen) : ∃ v : Int, (∀ w : World, Calls Try.prog 8 #[.agg #[.int .i64 wd, .int .i64 ht, .string s]] w fun e w' => e = .returned (.int .i64 v) ∧ RowKit.Below w.heap.size w w') ∧ (∀ w : World, Calls Try.prog 6 #[.agg #[.int .i64 wd, .int .i64 ht, .string s]] w fun e w' => e = .returned (.int .i64 v) ∧ RowKit.Below w.heap.size w w') := by
 refine ⟨Classical.epsilon (fun v => gf wd ht s v), fun w => (ee wd ht s w hs).mono ?_, fun w => (ew wd ht s w hs).mono ?_⟩
 ·rintro e w' ⟨⟨v, rfl, h⟩, hx⟩
  exact ⟨by rw [fT h (Classical.epsilon_spec (p := fun v => gf wd ht s v) ⟨v, h⟩)], hx⟩
 ·rintro e w' ⟨⟨v, rfl, h⟩, hx⟩
  exact ⟨by rw [fT h (Classical.epsilon_spec (p := fun v => gf wd ht s v) ⟨v, h⟩)], hx⟩
theorem jI {wn hn : Nat} {s : ByteArray} {lv : Int} (h : bu (wn : Int) (hn : Int) s lv = 0) : bu (wn : Int) (hn : Int) (bN wn s) lv = 0 ∧ cg (aK wn hn s lv) s.size wn (bp (wn : Int) (hn : Int) s lv) (bp (wn : Int) (hn : Int) (bN wn s) lv) ∧ s.size = wn * hn := by
 obtain ⟨h1, _, _⟩ := dL h
 have hf : av (wn : Int) (hn : Int) s = true := by unfold okB at h1; simp only [Bool.and_eq_true] at h1; exact h1.1
 obtain ⟨f1, f2, f3, f4, f5⟩ := au.1 hf
 have hs : s.size = wn * hn := by
  have : ((s.size : Nat) : Int) = ((wn * hn : Nat) : Int) := by rw [f5]; exact (Int.natCast_mul _ _).symm
  omega
 obtain ⟨m1, m2, m3, m4, m5, m6⟩ := iH h
 refine ⟨m1, ⟨m2, m3, m4, m5, m6, fun i => by have := eL s i; show ao s i ≤ 255; omega, ?_, by omega, by omega⟩, hs⟩
 rw [hs]
 exact Nat.mul_le_mul (show wn ≤ 16 by omega) (show hn ≤ 12 by omega)
theorem iy (x y : Int) (t : ByteArray) (k : Int) (w : World) : (Instr.field 40 (.agg #[.int .i64 x, .int .i64 y, .string t, .int .i64 k]) 0).run Try.prog w = .ok (.agg #[.int .i64 x, .int .i64 y, .string t]) w := by kernel_rfl
theorem iu (ga : Option Addr) (gc : Nat) (k : Int) (w : World) : (Instr.field 34 (.agg #[.slice ga 0 gc, .int .i64 k]) 0).run Try.prog w = .ok (.slice ga 0 gc) w := by kernel_rfl
theorem iT (wd ht : Int) (s : ByteArray) (lv : Int) : (bp wd ht s lv).length ≤ 8 := by
 unfold bp
 split
 ·split
  ·assumption
  ·exact Nat.zero_le _
 ·exact Nat.zero_le _
theorem hY (a b c d : Int) (e : Bool) (w : World) : (binOp .neq 44 (.agg #[.int .i64 a, .int .i64 b, .int .i64 c, .int .i64 d, .bool e]) (.agg #[.int .i64 a, .int .i64 b, .int .i64 c, .int .i64 d, .bool e])).run Try.prog w = .ok (.bool false) w := by cases e <;> simp [go_sem]
theorem iI (x y : Int) (t : ByteArray) (k : Int) (w : World) : (binOp .neq 40 (.agg #[.int .i64 x, .int .i64 y, .string t, .int .i64 k]) (.agg #[.int .i64 x, .int .i64 y, .string t, .int .i64 k])).run Try.prog w = .ok (.bool false) w := by simp [go_sem]
theorem iE (ca da : Option Addr) (len cc len2 dc : Nat) (w : World) (hl : len ≤ 1048576) (hl2 : len2 ≤ 1048576) (hR : Row w ca len w.heap.size) (hR2 : Row w da len2 w.heap.size) :
  Calls Try.prog 4 #[.slice ca len cc, .slice da len2 dc] w fun e w' => e = .returned (.bool true) ∧ Below w.heap.size w w' := by
 have h1 : ¬ (1048576 : Int) < (len : Int) := by omega
 have h2 : ¬ (1048576 : Int) < (len2 : Int) := by omega
 have cD := yz (eE ca len cc w hl hR)
 have HR2 := yz hR2
 clear hR hR2
 go_enter Try.func4, Try.ntmps4
 go_wp2_with fail
 refine (yx cD).mono ?_
 rintro e W1 ⟨⟨wd, ht, lv, s, rfl, hs⟩, hB1⟩
 have HB := yz hB1
 clear hB1 cD h1 h2
 have hsm : s.size ≤ maxLen := Nat.le_trans hs (by decide +kernel)
 go_wp2_with fail
 have hy := an W1 (.cells #[.int .i64 wd, .int .i64 ht, .string s] 26)
 have HF := yz (al W1 [.int .i64 wd, .int .i64 ht, .string s] 26)
 replace HB := yz (aj (yx HB) hy)
 clear hy
 generalize W1.alloc (.cells #[.int .i64 wd, .int .i64 ht, .string s] 26) = W2 at *
 generalize W1.heap.size = fb at *
 have hcd : ∃ k : Int, k = bu wd ht s lv := ⟨_, rfl⟩
 obtain ⟨k, hk⟩ := hcd
 obtain ⟨S, hS⟩ : ∃ S, S = bp wd ht s lv := ⟨_, rfl⟩
 have cI := yz (fun (W : World) => bB wd ht s lv W hsm)
 have cS := yz (fun (W : World) => dJ wd ht s lv W hsm)
 rw [← hk, ← hS] at cI cS
 have HK := yz hk
 have HS := yz hS
 clear hk hS
 refine (yx cI _).mono ?_
 rintro e W3 ⟨⟨v, rfl, hO⟩, hx⟩
 replace HB := yz (aj (yx HB) hx)
 replace HF := yz ((yx HF).kept hx)
 obtain ⟨xa, xc, rfl⟩ := aF hO
 have OX := yz hO
 clear hx hO cI
 have f0 := ((yx HF).alloc (.cells #[.slice xa S.length xc, .int .i64 k] 34)).cell 0 _ rfl
 have f1 := ((yx HF).alloc (.cells #[.slice xa S.length xc, .int .i64 k] 34)).cell 1 _ rfl
 have f2 := ((yx HF).alloc (.cells #[.slice xa S.length xc, .int .i64 k] 34)).cell 2 _ rfl
 go_wp2_with fail
 clear f0 f1 f2
 have hy := an W3 (.cells #[.slice xa S.length xc, .int .i64 k] 34)
 have HX := yz (al W3 [.slice xa S.length xc, .int .i64 k] 34)
 replace HB := yz (aj (yx HB) hy)
 replace HF := yz ((yx HF).kept hy)
 replace OX := yz (aq (yx OX) hy)
 clear hy
 generalize W3.alloc (.cells #[.slice xa S.length xc, .int .i64 k] 34) = W4 at *
 generalize W3.heap.size = xb at *
 refine (yx cS _).mono ?_
 rintro e W5 ⟨⟨v, rfl, hO⟩, hx⟩
 replace HB := yz (aj (yx HB) hx)
 replace HF := yz ((yx HF).kept hx)
 replace OX := yz (aq (yx OX) hx)
 replace HX := yz ((yx HX).kept hx)
 obtain ⟨ya, yc, rfl⟩ := aF hO
 have OY := yz hO
 clear hx hO cS
 go_wp2_with fail
 have hy := an W5 (.cells #[.slice ya S.length yc, .int .i64 k] 34)
 have HY := yz (al W5 [.slice ya S.length yc, .int .i64 k] 34)
 replace HB := yz (aj (yx HB) hy)
 replace HF := yz ((yx HF).kept hy)
 replace OX := yz (aq (yx OX) hy)
 replace HX := yz ((yx HX).kept hy)
 replace OY := yz (aq (yx OY) hy)
 clear hy
 generalize W5.alloc (.cells #[.slice ya S.length yc, .int .i64 k] 34) = W6 at *
 generalize W5.heap.size = yb at *
 have cD := yz (ft da len2 dc W6 hl2 ((yx HR2).upF (yx HB).size (yx HB).block))
 refine (yx cD).mono ?_
 rintro e W7 ⟨⟨gw, gh, dw, dh, gs, ds, rfl, hgs, hds⟩, hx⟩
 replace HB := yz (aj (yx HB) hx)
 replace HF := yz ((yx HF).kept hx)
 replace OX := yz (aq (yx OX) hx)
 replace HX := yz ((yx HX).kept hx)
 replace OY := yz (aq (yx OY) hx)
 replace HY := yz ((yx HY).kept hx)
 clear hx cD
 go_wp2_with fail
 have hy := be W7 (.cells #[.int .i64 gw, .int .i64 gh, .string gs] 26) (.cells #[.int .i64 dw, .int .i64 dh, .string ds] 26)
 have HG := yz ((al W7 [.int .i64 gw, .int .i64 gh, .string gs] 26).alloc (.cells #[.int .i64 dw, .int .i64 dh, .string ds] 26))
 have HD : Hid (Blk ((W7.alloc (.cells #[.int .i64 gw, .int .i64 gh, .string gs] 26)).alloc (.cells #[.int .i64 dw, .int .i64 dh, .string ds] 26)) (W7.heap.size + 1) [.int .i64 dw, .int .i64 dh, .string ds] 26) := yz (by have h := al (W7.alloc (.cells #[.int .i64 gw, .int .i64 gh, .string gs] 26)) [.int .i64 dw, .int .i64 dh, .string ds] 26; simpa using h)
 replace HB := yz (aj (yx HB) hy)
 replace HF := yz ((yx HF).kept hy)
 replace OX := yz (aq (yx OX) hy)
 replace HX := yz ((yx HX).kept hy)
 replace OY := yz (aq (yx OY) hy)
 replace HY := yz ((yx HY).kept hy)
 clear hy
 generalize (W7.alloc (.cells #[.int .i64 gw, .int .i64 gh, .string gs] 26)).alloc (.cells #[.int .i64 dw, .int .i64 dh, .string ds] 26) = W8 at *
 generalize W7.heap.size = gb at *
 have cD := yz (dX da len2 dc W8 hl2 ((yx HR2).upF (yx HB).size (yx HB).block))
 refine (yx cD).mono ?_
 rintro e W9 ⟨⟨mw, mh, ms, rfl, hms⟩, hx⟩
 replace HB := yz (aj (yx HB) hx)
 replace HF := yz ((yx HF).kept hx)
 replace OX := yz (aq (yx OX) hx)
 replace HX := yz ((yx HX).kept hx)
 replace OY := yz (aq (yx OY) hx)
 replace HY := yz ((yx HY).kept hx)
 replace HG := yz ((yx HG).kept hx)
 replace HD := yz ((yx HD).kept hx)
 clear hx cD
 go_wp2_with fail
 have hy := an W9 (.cells #[.int .i64 mw, .int .i64 mh, .string ms] 26)
 have HM := yz (al W9 [.int .i64 mw, .int .i64 mh, .string ms] 26)
 replace HB := yz (aj (yx HB) hy)
 replace HF := yz ((yx HF).kept hy)
 replace OX := yz (aq (yx OX) hy)
 replace HX := yz ((yx HX).kept hy)
 replace OY := yz (aq (yx OY) hy)
 replace HY := yz ((yx HY).kept hy)
 replace HG := yz ((yx HG).kept hy)
 replace HD := yz ((yx HD).kept hy)
 clear hy
 generalize W9.alloc (.cells #[.int .i64 mw, .int .i64 mh, .string ms] 26) = W10 at *
 generalize W9.heap.size = mb at *
 obtain ⟨lx, ly, lz, lt, hle⟩ := gt gw gh gs dw dh ds
 have cL1 := yz (fun (W : World) => cE gw gh gs dw dh ds W)
 have cL2 := yz (fun (W : World) => dm gw gh gs dw dh ds W)
 rw [hle] at cL1 cL2
 clear hle
 obtain ⟨mv, cM1, cM2⟩ := iF mw mh ms (Nat.le_trans hms (by decide +kernel))
 replace cM1 := yz cM1
 replace cM2 := yz cM2
 have cR1 := yz (fun (W : World) => bc wd ht s W)
 have cR2 := yz (fun (W : World) => aJ wd ht s W)
 obtain ⟨fr, HFR⟩ : ∃ b, Hid (b = av wd ht s) := ⟨_, yz rfl⟩
 rw [← yx HFR] at cR1 cR2
 have hqf := iI lx ly lt lz
 have z0 := cell_regrown ((yx HF).cell 0 _ rfl)
 have z1 := cell_regrown ((yx HF).cell 1 _ rfl)
 have z2 := cell_regrown ((yx HF).cell 2 _ rfl)
 have z3 := cell_regrown ((yx HX).cell 0 _ rfl)
 have z4 := cell_regrown ((yx HX).cell 1 _ rfl)
 have z5 := cell_regrown ((yx HY).cell 0 _ rfl)
 have z6 := cell_regrown ((yx HY).cell 1 _ rfl)
 have z7 := cell_regrown ((yx HG).cell 0 _ rfl)
 have z8 := cell_regrown ((yx HG).cell 1 _ rfl)
 have z9 := cell_regrown ((yx HG).cell 2 _ rfl)
 have z10 := cell_regrown ((yx HD).cell 0 _ rfl)
 have z11 := cell_regrown ((yx HD).cell 1 _ rfl)
 have z12 := cell_regrown ((yx HD).cell 2 _ rfl)
 have z13 := cell_regrown ((yx HM).cell 0 _ rfl)
 have z14 := cell_regrown ((yx HM).cell 1 _ rfl)
 have z15 := cell_regrown ((yx HM).cell 2 _ rfl)
 refine wp_region_quiet_below (by kernel_rfl) (by kernel_rfl) ?_
 repeat (go_big_quiet_step (first | (with_reducible exact Calls.regrown_of (yx cL1 _)) | (with_reducible exact Calls.regrown_of (yx cL2 _)) | (with_reducible exact Calls.regrown_of (yx cM1 _)) | (with_reducible exact Calls.regrown_of (yx cM2 _)) | (with_reducible exact Calls.regrown_of (yx cR1 _)) | (with_reducible exact Calls.regrown_of (yx cR2 _))))
 refine wpQuiet_nil ?_
 intro _ hw'
 obtain ⟨⟨dq, osq⟩, hw''⟩ := hw'
 subst hw''
 have hx := below_regrown W10 dq osq
 clear z0 z1 z2 z3 z4 z5 z6 z7 z8 z9 z10 z11 z12 z13 z14 z15 cL1 cL2 cM1 cM2 cR1 cR2 HG HD HM
 replace HB := yz (aj (yx HB) hx)
 replace HF := yz ((yx HF).kept hx)
 replace OX := yz (aq (yx OX) hx)
 replace HX := yz ((yx HX).kept hx)
 replace OY := yz (aq (yx OY) hx)
 replace HY := yz ((yx HY).kept hx)
 generalize grow (redrawn W10 dq) osq = W11 at *
 clear hx
 have x0 := (yx HX).cell 0 _ rfl
 have x1 := (yx HX).cell 1 _ rfl
 have HRX := yz (fm (yx OX))
 have HRY := yz (fm (yx OY))
 have hS8 : S.length ≤ 8 := by rw [yx HS]; exact iT _ _ _ _
 clear OX OY x0 x1
 have x0 := (yx HX).cell 0 _ rfl
 have x1 := (yx HX).cell 1 _ rfl
 go_wp2_with fail
 clear x0 x1
 go_loopw [12] (fun v wr => ∃ i : Nat, v = .int .i64 i ∧ i ≤ S.length ∧ Hid (RowKit.Below W11.heap.size W11 wr)) (fun v _ => S.length - (intOf v).toNat)
 case atStart => exact ⟨0, rfl, by omega, yz (RowKit.Below.refl _ _)⟩
 case round =>
  obtain ⟨i, rfl, hi, HV⟩ := hrel
  have x0 := ((yx HX).kept (yx HV)).cell 0 _ rfl
  have x1 := ((yx HX).kept (yx HV)).cell 1 _ rfl
  have y0 := ((yx HY).kept (yx HV)).cell 0 _ rfl
  by_cases hin : i < S.length
  ·have hiz : (i : Int) < (S.length : Int) := by omega
   obtain ⟨⟨ar, su, sx, sy, ed⟩, hb⟩ : ∃ b, b = blA S i := ⟨_, rfl⟩
   have ph : ∃ b, xa = some ⟨b, 0, none⟩ ∧ ∀ q v, (aZ (blA S i))[q]? = some v → wr.cell? ⟨b, i * 5 + q, none⟩ = some v := by
    rcases (yx HRX).kept (yx HV) with h | ⟨b, e, _, h⟩
    ·omega
    ·exact ⟨b, e, h i hin⟩
   obtain ⟨pb, rfl, pc⟩ := ph
   rw [← hb] at pc
   have p0 := cell_regrown (show wr.cell? ⟨pb, i * 5, none⟩ = some (.int .i64 (ar : Int)) from pc 0 _ rfl)
   have p1 := cell_regrown (pc 1 _ rfl)
   have p2 := cell_regrown (pc 2 _ rfl)
   have p3 := cell_regrown (pc 3 _ rfl)
   have p4 := cell_regrown (pc 4 _ rfl)
   clear pc
   have qh : ∃ b, ya = some ⟨b, 0, none⟩ ∧ ∀ q v, (aZ (blA S i))[q]? = some v → wr.cell? ⟨b, i * 5 + q, none⟩ = some v := by
    rcases (yx HRY).kept (yx HV) with h | ⟨b, e, _, h⟩
    ·omega
    ·exact ⟨b, e, h i hin⟩
   obtain ⟨qb, rfl, qc⟩ := qh
   rw [← hb] at qc
   have q0 := cell_regrown (show wr.cell? ⟨qb, i * 5, none⟩ = some (.int .i64 (ar : Int)) from qc 0 _ rfl)
   have q1 := cell_regrown (qc 1 _ rfl)
   have q2 := cell_regrown (qc 2 _ rfl)
   have q3 := cell_regrown (qc 3 _ rfl)
   have q4 := cell_regrown (qc 4 _ rfl)
   clear qc
   have rx0 := cell_regrown x0
   have ry0 := cell_regrown y0
   have HBA := yz hb
   clear hb
   have hqb := hY ar su sx sy ed
   go_wp2_with fail
   clear x0 x1 y0
   refine wp_region_quiet_below (by kernel_rfl) (by kernel_rfl) ?_
   repeat (go_big_quiet_step (fail))
   refine wpQuiet_nil ?_
   intro _ hw'
   obtain ⟨⟨dq, osq⟩, hw''⟩ := hw'
   subst hw''
   have hx := aj (yx HV) (below_regrown wr dq osq)
   generalize grow (redrawn wr dq) osq = W12 at hx ⊢
   have HV2 := yz hx
   clear hx HV p0 p1 p2 p3 p4 q0 q1 q2 q3 q4 rx0 ry0
   go_wp2_with fail
   go_roundw
   case rel => exact ⟨i + 1, by go_num, by omega, HV2⟩
   case measure => simp [intOf] <;> omega
  ·have hiz : ¬ (i : Int) < (S.length : Int) := by omega
   have hiS : i = S.length := by omega
   subst hiS
   clear hin hi hiz
   have HX2 := yz ((yx HX).kept (yx HV))
   have HF2 := yz ((yx HF).kept (yx HV))
   have HR2 := yz ((yx HRX).kept (yx HV))
   have HB2 := yz (aj (yx HB) (yx HV))
   clear HX HF HRX HB HV HY HRY x0 x1 y0
   have x0 := (yx HX2).cell 0 _ rfl
   have x1 := (yx HX2).cell 1 _ rfl
   by_cases hk : k = 0
   ·subst hk
    obtain ⟨g1, g2, g3⟩ := dL (yx HK).symm
    have g4 : av wd ht s = true := by unfold okB at g1; simp only [Bool.and_eq_true] at g1; exact g1.1
    obtain ⟨f1, f2, f3, f4, f5⟩ := au.1 g4
    obtain ⟨wn, rfl⟩ : ∃ n : Nat, wd = n := ⟨wd.toNat, by omega⟩
    obtain ⟨hn, rfl⟩ : ∃ n : Nat, ht = n := ⟨ht.toNat, by omega⟩
    obtain ⟨T, hT⟩ : ∃ T, T = bp (wn : Int) (hn : Int) (bN wn s) lv := ⟨_, rfl⟩
    obtain ⟨m1, hM, hss⟩ := jI (yx HK).symm
    obtain ⟨l1, l2⟩ := hI (lv := lv) (yx HK).symm
    rw [← yx HS, ← hT] at hM
    have HM := yz hM
    have hl8 : T.length = S.length := hM.len
    have cMr := yz (fun (W : World) => fw wn hn s W (by omega) (by omega) (by omega) (by omega) hss)
    have cB1 := yz (fun (W : World) => bB (wn : Int) (hn : Int) (bN wn s) lv W (by rw [dA]; exact hsm))
    have cL := yz (fun (W : World) => cE (wn : Int) (hn : Int) s (wn : Int) (hn : Int) s W)
    rw [l1] at cL
    have cB2 := yz (fun (W : World) => bB (wn : Int) (hn : Int) (bv s s) 0 W (by rw [eg]; exact hsm))
    rw [l2] at cB2
    rw [m1, ← hT] at cB1
    generalize bu (wn : Int) (hn : Int) (bv s s) 0 = kz at *
    generalize bN wn s = ms at *
    generalize bv s s = ls at *
    have HSZ := yz hss
    have HL := yz hl8
    have HN8 := yz hsm
    have hsl : (s.size : Int) ≤ 192 := by have := hM.hn; omega
    have HE := yz ((show (wn : Int) - 1 = (wn : Int) - 1 from rfl))
    clear g1 g2 g3 g4 f1 f2 f3 f4 f5 l1 l2 hM hT m1 HE hss hl8 HS HK
    obtain ⟨f0, f1, f2⟩ := cd (yx HF2)
    go_wp2_with fail
    clear f0 f1 f2
    refine (yx cMr _).mono ?_
    rintro e w1 ⟨rfl, hx⟩
    replace HX2 := yz ((yx HX2).kept hx)
    replace HF2 := yz ((yx HF2).kept hx)
    replace HR2 := yz ((yx HR2).kept hx)
    replace HB2 := yz (aj (yx HB2) hx)
    clear hx cMr
    go_wp2_with fail
    refine (yx cB1 _).mono ?_
    rintro e w2 ⟨⟨v, rfl, hO⟩, hx⟩
    replace HX2 := yz ((yx HX2).kept hx)
    replace HF2 := yz ((yx HF2).kept hx)
    replace HR2 := yz ((yx HR2).kept hx)
    replace HB2 := yz (aj (yx HB2) hx)
    obtain ⟨za, zc, rfl⟩ := aF hO
    have HZR := yz (fm hO)
    rw [yx HL]
    clear hx hO cB1 x0 x1
    have x0 := ((yx HX2).alloc (.cells #[.slice za S.length zc, .int .i64 0] 34)).cell 0 _ rfl
    have x1 := ((yx HX2).alloc (.cells #[.slice za S.length zc, .int .i64 0] 34)).cell 1 _ rfl
    have f0 := ((yx HF2).alloc (.cells #[.slice za S.length zc, .int .i64 0] 34)).cell 0 _ rfl
    have f1 := ((yx HF2).alloc (.cells #[.slice za S.length zc, .int .i64 0] 34)).cell 1 _ rfl
    have f2 := ((yx HF2).alloc (.cells #[.slice za S.length zc, .int .i64 0] 34)).cell 2 _ rfl
    go_wp2_with fail
    clear x0 x1 f0 f1 f2
    have hy := an w2 (.cells #[.slice za S.length zc, .int .i64 0] 34)
    have HZ := yz (al w2 [.slice za S.length zc, .int .i64 0] 34)
    replace HX2 := yz ((yx HX2).kept hy)
    replace HF2 := yz ((yx HF2).kept hy)
    replace HR2 := yz ((yx HR2).kept hy)
    replace HB2 := yz (aj (yx HB2) hy)
    replace HZR := yz ((yx HZR).kept hy)
    clear hy
    generalize w2.alloc (.cells #[.slice za S.length zc, .int .i64 0] 34) = w3 at *
    generalize w2.heap.size = zb at *
    refine (yx cL _).mono ?_
    rintro e w4 ⟨rfl, hx⟩
    replace HX2 := yz ((yx HX2).kept hx)
    replace HF2 := yz ((yx HF2).kept hx)
    replace HR2 := yz ((yx HR2).kept hx)
    replace HB2 := yz (aj (yx HB2) hx)
    replace HZR := yz ((yx HZR).kept hx)
    replace HZ := yz ((yx HZ).kept hx)
    clear hx cL
    have fe := iy (wn : Int) (hn : Int) ls 0
    go_wp2_with fail
    clear fe
    refine (yx cB2 _).mono ?_
    rintro e w5 ⟨⟨v, rfl, hO⟩, hx⟩
    replace HX2 := yz ((yx HX2).kept hx)
    replace HF2 := yz ((yx HF2).kept hx)
    replace HR2 := yz ((yx HR2).kept hx)
    replace HB2 := yz (aj (yx HB2) hx)
    replace HZR := yz ((yx HZR).kept hx)
    replace HZ := yz ((yx HZ).kept hx)
    obtain ⟨ga, gc, rfl⟩ := aF hO
    clear hx hO cB2
    rw [show (([] : List Bl).length) = 0 from rfl]
    have fe := iu ga gc kz
    go_wp2_with fail
    clear fe
    go_loopw [14, 15, 16, 17, 19] (fun ua ub uc ud v wq => ∃ i : Nat, v = .int .i64 i ∧ i ≤ S.length ∧ ua = .int .i64 (qa S T i) ∧ ub = .int .i64 (qb S i) ∧ uc = .int .i64 (qc S T i) ∧ ud = .int .i64 (qd S i) ∧ Hid (RowKit.Below w5.heap.size w5 wq)) (fun _ _ _ _ v _ => S.length - (intOf v).toNat)
    case atStart => exact ⟨0, rfl, by omega, by simp [qa, dN], by simp [qb, dN], by simp [qc, dN], by simp [qd, dN], yz (RowKit.Below.refl _ _)⟩
    case round =>
     obtain ⟨i, rfl, hi, rfl, rfl, rfl, rfl, HV⟩ := hrel
     have x0 := ((yx HX2).kept (yx HV)).cell 0 _ rfl
     by_cases hin : i < S.length
     ·have hiz : (i : Int) < (S.length : Int) := by omega
      have z0 := ((yx HZ).kept (yx HV)).cell 0 _ rfl
      have sA := jp (yx HM) hin
      have sB := jq (yx HM) hin
      have sC := jr (yx HM) hin
      have sD := js (yx HM) hin
      obtain ⟨⟨ar, su, sx, sy, ed⟩, hb⟩ : ∃ b, b = blA S i := ⟨_, rfl⟩
      obtain ⟨⟨ar2, su2, sx2, sy2, ed2⟩, hb2⟩ : ∃ b, b = blA T i := ⟨_, rfl⟩
      have hiT : i < T.length := by rw [yx HL]; exact hin
      rw [← hb, ← hb2] at sA sC
      rw [← hb] at sB sD
      dsimp only at sA sB sC sD
      replace sA := yz sA
      replace sB := yz sB
      replace sC := yz sC
      replace sD := yz sD
      have ph : ∃ b, xa = some ⟨b, 0, none⟩ ∧ ∀ q v, (aZ (blA S i))[q]? = some v → wr.cell? ⟨b, i * 5 + q, none⟩ = some v := by
       rcases (yx HR2).kept (yx HV) with h | ⟨b, e, _, h⟩
       ·omega
       ·exact ⟨b, e, h i hin⟩
      obtain ⟨pb, rfl, pc⟩ := ph
      rw [← hb] at pc
      have p0 : wr.cell? ⟨pb, i * 5, none⟩ = some (.int .i64 (ar : Int)) := pc 0 _ rfl
      have p1 := pc 1 _ rfl
      have p2 := pc 2 _ rfl
      clear pc
      have qh : ∃ b, za = some ⟨b, 0, none⟩ ∧ ∀ q v, (aZ (blA T i))[q]? = some v → wr.cell? ⟨b, i * 5 + q, none⟩ = some v := by
       rcases (yx HZR).kept (yx HV) with h | ⟨b, e, _, h⟩
       ·omega
       ·exact ⟨b, e, h i hiT⟩
      obtain ⟨qb, rfl, qc⟩ := qh
      rw [← hb2] at qc
      have q0 : wr.cell? ⟨qb, i * 5, none⟩ = some (.int .i64 (ar2 : Int)) := qc 0 _ rfl
      have q2 := qc 2 _ rfl
      clear qc
      have HBA := yz hb
      have HBB := yz hb2
      clear hb hb2 hiT
      go_wp2_with fail
      have rx0 := cell_regrown x0
      have rz0 := cell_regrown z0
      have rp0 := cell_regrown p0
      have rp1 := cell_regrown p1
      have rp2 := cell_regrown p2
      have rq0 := cell_regrown q0
      have rq2 := cell_regrown q2
      refine wp_region_quiet_below (by kernel_rfl) (by kernel_rfl) ?_
      repeat (go_big_quiet_step (fail))
      refine wpQuiet_nil ?_
      intro _ hw'
      obtain ⟨⟨dq, osq⟩, hw''⟩ := hw'
      subst hw''
      have hx := aj (yx HV) (below_regrown wr dq osq)
      replace x0 := rx0 dq osq
      replace z0 := rz0 dq osq
      replace p0 := rp0 dq osq
      replace p1 := rp1 dq osq
      replace p2 := rp2 dq osq
      replace q0 := rq0 dq osq
      replace q2 := rq2 dq osq
      clear rx0 rz0 rp0 rp1 rp2 rq0 rq2
      generalize grow (redrawn wr dq) osq = W12 at hx x0 z0 p0 p1 p2 q0 q2 ⊢
      have HV2 := yz hx
      clear hx HV
      try simp only [Go.IntWalk.i64_left]
      rw [yx sA]
      go_wp2_with fail
      rw [yx sB]
      have rx0 := cell_regrown x0
      have rz0 := cell_regrown z0
      have rp0 := cell_regrown p0
      have rp2 := cell_regrown p2
      have rq2 := cell_regrown q2
      refine wp_region_quiet_below (by kernel_rfl) (by kernel_rfl) ?_
      repeat (go_big_quiet_step (fail))
      refine wpQuiet_nil ?_
      intro _ hw'
      obtain ⟨⟨dq, osq⟩, hw''⟩ := hw'
      subst hw''
      have hx := aj (yx HV2) (below_regrown W12 dq osq)
      replace x0 := rx0 dq osq
      replace z0 := rz0 dq osq
      replace p0 := rp0 dq osq
      replace p2 := rp2 dq osq
      replace q2 := rq2 dq osq
      clear rx0 rz0 rp0 rp2 rq2
      generalize grow (redrawn W12 dq) osq = W13 at hx x0 z0 p0 p2 q2 ⊢
      have HV3 := yz hx
      clear hx HV2
      try simp only [Go.IntWalk.i64_left]
      rw [yx sC]
      clear z0 p2 q2 q0 p1
      go_wp2_with fail
      rw [yx sD]
      go_roundw
      case rel => exact ⟨i + 1, by go_num, by omega, rfl, rfl, rfl, rfl, HV3⟩
      case measure => simp [intOf] <;> omega
     ·have hiz : ¬ (i : Int) < (S.length : Int) := by omega
      have hiS : i = S.length := by omega
      subst hiS
      obtain ⟨e1, e2, e3, e4⟩ := jQ (yx HM) (Nat.le_refl S.length)
      rw [e1, e2, e3, e4]
      clear e1 e2 e3 e4 hin hi hiz
      have HF3 := yz ((yx HF2).kept (yx HV))
      have HB3 := yz (aj (yx HB2) (yx HV))
      clear HF2 HB2 HV HZ HZR HX2 HR2
      have f2 := (yx HF3).cell 2 _ rfl
      obtain ⟨w6, hw6⟩ : ∃ x, x = wr := ⟨_, rfl⟩
      subst hw6
      clear f2
      go_wp2_with fail
      clear x0
      go_loopw [17, 18, 20] (fun ua ub v wr => ∃ i : Nat, v = .int .i64 i ∧ i ≤ s.size ∧ ua = .int .i64 (ql (aK wn hn s lv) (ce S) i) ∧ ub = .int .i64 (qm (aK wn hn s lv) i) ∧ Hid (RowKit.Below w6.heap.size w6 wr)) (fun _ _ v _ => s.size - (intOf v).toNat)
      case atStart => exact ⟨0, rfl, by omega, by simp [ql, ax], by simp [qm, ax], yz (RowKit.Below.refl _ _)⟩
      case round =>
       obtain ⟨i, rfl, hi, rfl, rfl, HV⟩ := hrel
       have f2 := ((yx HF3).kept (yx HV)).cell 2 _ rfl
       by_cases hin : i < s.size
       ·have hiz : (i : Int) < (s.size : Int) := by omega
        have HE : Hid (wrap64 (s[i].toNat : Int) = ((ao s i : Nat) : Int)) := yz (by rw [aU hin]; exact aG (by omega) (by have := s[i].toNat_lt; omega))
        by_cases hlt : lv < ((ao s i : Nat) : Int)
        ·obtain ⟨sA, sB⟩ := ju (yx HM) hin (show litB (aK wn hn s lv) i = true from decide_eq_true hlt)
         have hlz : lv < wrap64 (s[i].toNat : Int) := by rw [yx HE]; exact hlt
         have sB2 : Hid (wrap64 (qm (aK wn hn s lv) i + wrap64 (s[i].toNat : Int)) = qm (aK wn hn s lv) (i + 1)) := yz (by rw [yx HE]; exact sB)
         have sA2 := yz sA
         clear sA sB HE hlt
         go_wp2_with fail
         go_roundw
         case rel => exact ⟨i + 1, by go_num, by omega, by rw [yx sA2], by rw [yx sB2], HV⟩
         case measure => simp [intOf] <;> omega
        ·obtain ⟨sA, sB⟩ := jt (f := (aK wn hn s lv)) (S := S) (show ¬ litB (aK wn hn s lv) i = true from fun h => hlt (of_decide_eq_true h))
         have hlz : ¬ lv < wrap64 (s[i].toNat : Int) := by rw [yx HE]; exact hlt
         have sA2 := yz sA
         have sB2 := yz sB
         clear sA sB HE hlt
         go_wp2_with fail
         go_roundw
         case rel => exact ⟨i + 1, by go_num, by omega, by rw [yx sA2], by rw [yx sB2], HV⟩
         case measure => simp [intOf] <;> omega
       ·have hiz : ¬ (i : Int) < (s.size : Int) := by omega
        have hiS : i = s.size := by omega
        subst hiS
        have f0 := ((yx HF3).kept (yx HV)).cell 0 _ rfl
        obtain ⟨e1, e2⟩ := jL (yx HM)
        rw [e1, e2]
        have hfar := jF (yx HM)
        have hfe : (((wn : Int) - 1) * (bW S : Int) == wrap64 (wrap64 ((wn : Int) - 1) * (bW S : Int))) = true := by rw [hfar]; simp
        clear e1 e2 hfar
        go_wp2_with fail
        go_ret
        exact ⟨rfl, aj (yx HB3) (yx HV)⟩
   ·have hk2 : (k == 0) = false := by simp [hk]
    go_wp2_with fail
    go_ret
    exact ⟨rfl, yx HB2⟩
end
end Go.Proofs.Ytackifnnhjbgbaa
