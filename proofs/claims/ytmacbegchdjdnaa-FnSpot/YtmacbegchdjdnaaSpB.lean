/- SpotOf, walked: the specification's and the program's. -/
import Derived.Test.YtmacbegchdjdnaaSpA
namespace Go.Proofs.Ytmacbegchdjdnaa
open Go.RowKit Go.Sort
set_option linter.unusedVariables false

theorem isD (lo n hi : Int) : (decide (lo ≤ n) && decide (n ≤ hi)) = decide (lo ≤ n ∧ n ≤ hi) := by rw [Bool.decide_and]
theorem ok_no1 {su sx sy wd ht fo : Int} {s : ByteArray} (h : frameB wd ht s = false) : spOk su sx sy wd ht s fo = false := by unfold spOk; rw [h]; simp
theorem ok_no2 {su sx sy wd ht fo : Int} {s : ByteArray} (h : focB fo = false) : spOk su sx sy wd ht s fo = false := by unfold spOk; rw [h]; simp
theorem ok_no3 {su sx sy wd ht fo : Int} {s : ByteArray} (h : weighB su sx sy = false) : spOk su sx sy wd ht s fo = false := by unfold spOk; rw [h]; simp
theorem ok_yes {su sx sy wd ht fo : Int} {s : ByteArray} (h : weighB su sx sy = true) (h1 : frameB wd ht s = true) (h2 : focB fo = true) : spOk su sx sy wd ht s fo = true := by unfold spOk; rw [h, h1, h2]; rfl

set_option maxHeartbeats 2000000 in
set_option maxRecDepth 100000 in
theorem specSpotOf_any (ar su sx sy : Int) (ed : Bool) (wd ht : Int) (s : ByteArray) (fo : Int) (w : World) :
    Calls Try.prog 22 #[.agg #[.int .i64 ar, .int .i64 su, .int .i64 sx, .int .i64 sy, .bool ed], .agg #[.int .i64 wd, .int .i64 ht, .string s], .int .i64 fo] w fun e w' => e = .returned (spV su sx sy wd ht s fo) ∧ Below w.heap.size w w' := by
  have A0 := ((blk_new w [.int .i64 ar, .int .i64 su, .int .i64 sx, .int .i64 sy, .bool ed] 40).alloc (.cells #[.int .i64 wd, .int .i64 ht, .string s] 24)).alloc (.cells #[.int .i64 0, .int .i64 0, .int .i64 0] 46)
  have D0 := (blk_new (w.alloc (.cells #[.int .i64 ar, .int .i64 su, .int .i64 sx, .int .i64 sy, .bool ed] 40)) [.int .i64 wd, .int .i64 ht, .string s] 24).alloc (.cells #[.int .i64 0, .int .i64 0, .int .i64 0] 46)
  have R0 := blk_new ((w.alloc (.cells #[.int .i64 ar, .int .i64 su, .int .i64 sx, .int .i64 sy, .bool ed] 40)).alloc (.cells #[.int .i64 wd, .int .i64 ht, .string s] 24)) [.int .i64 0, .int .i64 0, .int .i64 0] 46
  have B0 := below3 w (.cells #[.int .i64 ar, .int .i64 su, .int .i64 sx, .int .i64 sy, .bool ed] 40) (.cells #[.int .i64 wd, .int .i64 ht, .string s] 24) (.cells #[.int .i64 0, .int .i64 0, .int .i64 0] 46)
  have e1 : (w.alloc (.cells #[.int .i64 ar, .int .i64 su, .int .i64 sx, .int .i64 sy, .bool ed] 40)).heap.size = w.heap.size + 1 := by simp
  have e2 : ((w.alloc (.cells #[.int .i64 ar, .int .i64 su, .int .i64 sx, .int .i64 sy, .bool ed] 40)).alloc (.cells #[.int .i64 wd, .int .i64 ht, .string s] 24)).heap.size = w.heap.size + 1 + 1 := by simp
  rw [e1] at D0
  rw [e2] at R0
  clear e1 e2
  go_enter Try.func22, Try.ntmps22
  go_wp2_with fail
  generalize ((w.alloc (.cells #[.int .i64 ar, .int .i64 su, .int .i64 sx, .int .i64 sy, .bool ed] 40)).alloc (.cells #[.int .i64 wd, .int .i64 ht, .string s] 24)).alloc (.cells #[.int .i64 0, .int .i64 0, .int .i64 0] 46) = W0 at A0 D0 R0 B0 ⊢
  obtain ⟨ob, hob⟩ : ∃ ob, ob = w.heap.size + 1 + 1 := ⟨_, rfl⟩
  obtain ⟨db, hdb⟩ : ∃ db, db = w.heap.size + 1 := ⟨_, rfl⟩
  obtain ⟨fb, hfb⟩ : ∃ fb, fb = w.heap.size := ⟨_, rfl⟩
  rw [← hob] at R0 ⊢
  rw [← hdb] at D0 ⊢
  rw [← hfb] at A0 ⊢
  have lob : w.heap.size ≤ ob := by omega
  clear hob hdb hfb
  refine (specFrameRight_any wd ht s _).mono ?_
  rintro e W1 ⟨rfl, hx⟩
  have A1 := A0.kept hx
  have D1 := D0.kept hx
  have R1 := R0.kept hx
  have B1 := below_call B0 hx
  clear hx A0 D0 R0 B0
  cases k1 : frameB wd ht s
  case false =>
    have r0 := R1.cell 0 _ rfl
    have r1 := R1.cell 1 _ rfl
    have r2 := R1.cell 2 _ rfl
    have g0 := R1.free 0
    have g1 := R1.free 1
    have g2 := R1.free 2
    have HV : Hid (spV su sx sy wd ht s fo = _) := hide (spV_no (ok_no1 k1))
    go_wp2_with fail
    rw [unhide HV]
    exact bodyPost_ret (v := .agg #[.int .i64 0, .int .i64 0, .int .i64 0]) (by simp [results, Try.results22, go_sem, r0, r1, r2]) rfl ⟨rfl, ((B1.setCell lob _).setCell lob _).setCell lob _⟩
  have a0 := A1.cell 0 _ rfl
  have a1 := A1.cell 1 _ rfl
  have a2 := A1.cell 2 _ rfl
  have a3 := A1.cell 3 _ rfl
  have a4 := A1.cell 4 _ rfl
  have d0 := D1.cell 0 _ rfl
  have d1 := D1.cell 1 _ rfl
  have d2 := D1.cell 2 _ rfl
  go_wp2_with fail
  refine (l02Is_any fo 1 40 _).mono ?_
  rintro e W2 ⟨rfl, hw⟩
  rw [hw]
  clear hw W2
  rw [isD, show decide (1 ≤ fo ∧ fo ≤ 40) = focB fo from rfl]
  cases k2 : focB fo
  case false =>
    have r0 := R1.cell 0 _ rfl
    have r1 := R1.cell 1 _ rfl
    have r2 := R1.cell 2 _ rfl
    have g0 := R1.free 0
    have g1 := R1.free 1
    have g2 := R1.free 2
    have HV : Hid (spV su sx sy wd ht s fo = _) := hide (spV_no (ok_no2 k2))
    go_wp2_with fail
    rw [unhide HV]
    exact bodyPost_ret (v := .agg #[.int .i64 0, .int .i64 0, .int .i64 0]) (by simp [results, Try.results22, go_sem, r0, r1, r2]) rfl ⟨rfl, ((B1.setCell lob _).setCell lob _).setCell lob _⟩
  go_wp2_with fail
  refine (l02Is_any su 1 10000 _).mono ?_
  rintro e W2 ⟨rfl, hw⟩
  rw [hw]
  clear hw W2
  rw [isD]
  by_cases k3 : 1 ≤ su ∧ su ≤ 10000
  case neg =>
    rw [decide_eq_false k3]
    have r0 := R1.cell 0 _ rfl
    have r1 := R1.cell 1 _ rfl
    have r2 := R1.cell 2 _ rfl
    have g0 := R1.free 0
    have g1 := R1.free 1
    have g2 := R1.free 2
    have HV : Hid (spV su sx sy wd ht s fo = _) := hide (spV_no (ok_no3 (weighB_no (by omega))))
    go_wp2_with fail
    rw [unhide HV]
    exact bodyPost_ret (v := .agg #[.int .i64 0, .int .i64 0, .int .i64 0]) (by simp [results, Try.results22, go_sem, r0, r1, r2]) rfl ⟨rfl, ((B1.setCell lob _).setCell lob _).setCell lob _⟩
  rw [decide_eq_true k3]
  obtain ⟨s1, s2⟩ := k3
  go_wp2_with fail
  refine (l02Is_any sx 0 (15 * su) _).mono ?_
  rintro e W2 ⟨rfl, hw⟩
  rw [hw]
  clear hw W2
  rw [isD]
  by_cases k4 : 0 ≤ sx ∧ sx ≤ 15 * su
  case neg =>
    rw [decide_eq_false k4]
    have r0 := R1.cell 0 _ rfl
    have r1 := R1.cell 1 _ rfl
    have r2 := R1.cell 2 _ rfl
    have g0 := R1.free 0
    have g1 := R1.free 1
    have g2 := R1.free 2
    have HV : Hid (spV su sx sy wd ht s fo = _) := hide (spV_no (ok_no3 (weighB_no (by omega))))
    go_wp2_with fail
    rw [unhide HV]
    exact bodyPost_ret (v := .agg #[.int .i64 0, .int .i64 0, .int .i64 0]) (by simp [results, Try.results22, go_sem, r0, r1, r2]) rfl ⟨rfl, ((B1.setCell lob _).setCell lob _).setCell lob _⟩
  rw [decide_eq_true k4]
  go_wp2_with fail
  refine (l02Is_any sy 0 (11 * su) _).mono ?_
  rintro e W2 ⟨rfl, hw⟩
  rw [hw]
  clear hw W2
  rw [isD]
  by_cases k5 : 0 ≤ sy ∧ sy ≤ 11 * su
  case neg =>
    rw [decide_eq_false k5]
    have r0 := R1.cell 0 _ rfl
    have r1 := R1.cell 1 _ rfl
    have r2 := R1.cell 2 _ rfl
    have g0 := R1.free 0
    have g1 := R1.free 1
    have g2 := R1.free 2
    have HV : Hid (spV su sx sy wd ht s fo = _) := hide (spV_no (ok_no3 (weighB_no (by omega))))
    go_wp2_with fail
    rw [unhide HV]
    exact bodyPost_ret (v := .agg #[.int .i64 0, .int .i64 0, .int .i64 0]) (by simp [results, Try.results22, go_sem, r0, r1, r2]) rfl ⟨rfl, ((B1.setCell lob _).setCell lob _).setCell lob _⟩
  rw [decide_eq_true k5]
  have hok : spOk su sx sy wd ht s fo = true := ok_yes (decide_eq_true ⟨s1, s2, k4.1, k4.2, k5.1, k5.2⟩) k1 k2
  have cL := hide (fun W => l05Spot_any ar su sx sy ed wd ht s fo W hok)
  have cP := hide (fun W => l02Prime_any _ _ _ W (sp_right hok))
  have HV := hide (spV_yes hok)
  unfold prI at HV
  simp only [if_true] at HV
  clear hok k1 k2 k4 k5 s1 s2
  generalize wrap64 ((spX sx wd su).tdiv (gI (spX sx wd su) (spX sy ht su) (spZ fo su))) = px at *
  generalize wrap64 ((spX sy ht su).tdiv (gI (spX sx wd su) (spX sy ht su) (spZ fo su))) = py at *
  generalize wrap64 ((spZ fo su).tdiv (gI (spX sx wd su) (spX sy ht su) (spZ fo su))) = pz at *
  generalize spX sx wd su = vx at *
  generalize spX sy ht su = vy at *
  generalize spZ fo su = vz at *
  go_wp2_with fail
  refine (unhide cL _).mono ?_
  rintro e W2 ⟨rfl, hx⟩
  have A2 := A1.kept hx
  have D2 := D1.kept hx
  have R2 := R1.kept hx
  have B2 := below_call B1 hx
  clear hx A1 D1 R1 B1
  clear a0 a1 a2 a3 a4 d0 d1 d2
  go_wp2_with fail
  refine (unhide cP _).mono ?_
  rintro e W3 ⟨rfl, hx⟩
  have A3 := A2.kept hx
  have D3 := D2.kept hx
  have R3 := R2.kept hx
  have B3 := below_call B2 hx
  clear hx A2 D2 R2 B2
  have r0 := R3.cell 0 _ rfl
  have r1 := R3.cell 1 _ rfl
  have r2 := R3.cell 2 _ rfl
  have g0 := R3.free 0
  have g1 := R3.free 1
  have g2 := R3.free 2
  go_wp2_with fail
  rw [unhide HV]
  exact bodyPost_ret (v := .agg #[.int .i64 px, .int .i64 py, .int .i64 pz]) (by simp [results, Try.results22, go_sem, r0, r1, r2]) rfl ⟨rfl, ((B3.setCell lob _).setCell lob _).setCell lob _⟩
set_option maxHeartbeats 2000000 in
set_option maxRecDepth 100000 in
theorem spotOf_any (ar su sx sy : Int) (ed : Bool) (wd ht : Int) (s : ByteArray) (fo : Int) (w : World) :
    Calls Try.prog 18 #[.agg #[.int .i64 ar, .int .i64 su, .int .i64 sx, .int .i64 sy, .bool ed], .agg #[.int .i64 wd, .int .i64 ht, .string s], .int .i64 fo] w fun e w' => e = .returned (spV su sx sy wd ht s fo) ∧ Below w.heap.size w w' := by
  have A0 := ((blk_new w [.int .i64 ar, .int .i64 su, .int .i64 sx, .int .i64 sy, .bool ed] 40).alloc (.cells #[.int .i64 wd, .int .i64 ht, .string s] 24)).alloc (.cells #[.int .i64 0, .int .i64 0, .int .i64 0] 46)
  have D0 := (blk_new (w.alloc (.cells #[.int .i64 ar, .int .i64 su, .int .i64 sx, .int .i64 sy, .bool ed] 40)) [.int .i64 wd, .int .i64 ht, .string s] 24).alloc (.cells #[.int .i64 0, .int .i64 0, .int .i64 0] 46)
  have R0 := blk_new ((w.alloc (.cells #[.int .i64 ar, .int .i64 su, .int .i64 sx, .int .i64 sy, .bool ed] 40)).alloc (.cells #[.int .i64 wd, .int .i64 ht, .string s] 24)) [.int .i64 0, .int .i64 0, .int .i64 0] 46
  have B0 := below3 w (.cells #[.int .i64 ar, .int .i64 su, .int .i64 sx, .int .i64 sy, .bool ed] 40) (.cells #[.int .i64 wd, .int .i64 ht, .string s] 24) (.cells #[.int .i64 0, .int .i64 0, .int .i64 0] 46)
  have e1 : (w.alloc (.cells #[.int .i64 ar, .int .i64 su, .int .i64 sx, .int .i64 sy, .bool ed] 40)).heap.size = w.heap.size + 1 := by simp
  have e2 : ((w.alloc (.cells #[.int .i64 ar, .int .i64 su, .int .i64 sx, .int .i64 sy, .bool ed] 40)).alloc (.cells #[.int .i64 wd, .int .i64 ht, .string s] 24)).heap.size = w.heap.size + 1 + 1 := by simp
  rw [e1] at D0
  rw [e2] at R0
  clear e1 e2
  go_enter Try.func18, Try.ntmps18
  go_wp2_with fail
  generalize ((w.alloc (.cells #[.int .i64 ar, .int .i64 su, .int .i64 sx, .int .i64 sy, .bool ed] 40)).alloc (.cells #[.int .i64 wd, .int .i64 ht, .string s] 24)).alloc (.cells #[.int .i64 0, .int .i64 0, .int .i64 0] 46) = W0 at A0 D0 R0 B0 ⊢
  obtain ⟨ob, hob⟩ : ∃ ob, ob = w.heap.size + 1 + 1 := ⟨_, rfl⟩
  obtain ⟨db, hdb⟩ : ∃ db, db = w.heap.size + 1 := ⟨_, rfl⟩
  obtain ⟨fb, hfb⟩ : ∃ fb, fb = w.heap.size := ⟨_, rfl⟩
  rw [← hob] at R0 ⊢
  rw [← hdb] at D0 ⊢
  rw [← hfb] at A0 ⊢
  have lob : w.heap.size ≤ ob := by omega
  clear hob hdb hfb
  refine (isWeighed_any ar su sx sy ed _).mono ?_
  rintro e W1 ⟨rfl, hx⟩
  have A1 := A0.kept hx
  have D1 := D0.kept hx
  have R1 := R0.kept hx
  have B1 := below_call B0 hx
  clear hx A0 D0 R0 B0
  cases k1 : weighB su sx sy
  case false =>
    have r0 := R1.cell 0 _ rfl
    have r1 := R1.cell 1 _ rfl
    have r2 := R1.cell 2 _ rfl
    have g0 := R1.free 0
    have g1 := R1.free 1
    have g2 := R1.free 2
    have HV : Hid (spV su sx sy wd ht s fo = _) := hide (spV_no (ok_no3 k1))
    go_wp2_with fail
    rw [unhide HV]
    exact bodyPost_ret (v := .agg #[.int .i64 0, .int .i64 0, .int .i64 0]) (by simp [results, Try.results18, go_sem, r0, r1, r2]) rfl ⟨rfl, ((B1.setCell lob _).setCell lob _).setCell lob _⟩
  have a0 := A1.cell 0 _ rfl
  have a1 := A1.cell 1 _ rfl
  have a2 := A1.cell 2 _ rfl
  have a3 := A1.cell 3 _ rfl
  have a4 := A1.cell 4 _ rfl
  have d0 := D1.cell 0 _ rfl
  have d1 := D1.cell 1 _ rfl
  have d2 := D1.cell 2 _ rfl
  go_wp2_with fail
  refine (frameRight_any wd ht s _).mono ?_
  rintro e W2 ⟨rfl, hx⟩
  have A2 := A1.kept hx
  have D2 := D1.kept hx
  have R2 := R1.kept hx
  have B2 := below_call B1 hx
  clear hx A1 D1 R1 B1
  clear a0 a1 a2 a3 a4 d0 d1 d2
  cases k2 : frameB wd ht s
  case false =>
    have r0 := R2.cell 0 _ rfl
    have r1 := R2.cell 1 _ rfl
    have r2 := R2.cell 2 _ rfl
    have g0 := R2.free 0
    have g1 := R2.free 1
    have g2 := R2.free 2
    have HV : Hid (spV su sx sy wd ht s fo = _) := hide (spV_no (ok_no1 k2))
    go_wp2_with fail
    rw [unhide HV]
    exact bodyPost_ret (v := .agg #[.int .i64 0, .int .i64 0, .int .i64 0]) (by simp [results, Try.results18, go_sem, r0, r1, r2]) rfl ⟨rfl, ((B2.setCell lob _).setCell lob _).setCell lob _⟩
  go_wp2_with fail
  refine (isFocal_any fo _).mono ?_
  rintro e W3 ⟨rfl, hw⟩
  rw [hw]
  clear hw W3
  cases k3 : focB fo
  case false =>
    have r0 := R2.cell 0 _ rfl
    have r1 := R2.cell 1 _ rfl
    have r2 := R2.cell 2 _ rfl
    have g0 := R2.free 0
    have g1 := R2.free 1
    have g2 := R2.free 2
    have HV : Hid (spV su sx sy wd ht s fo = _) := hide (spV_no (ok_no2 k3))
    go_wp2_with fail
    rw [unhide HV]
    exact bodyPost_ret (v := .agg #[.int .i64 0, .int .i64 0, .int .i64 0]) (by simp [results, Try.results18, go_sem, r0, r1, r2]) rfl ⟨rfl, ((B2.setCell lob _).setCell lob _).setCell lob _⟩
  have a0 := A2.cell 0 _ rfl
  have a1 := A2.cell 1 _ rfl
  have a2 := A2.cell 2 _ rfl
  have a3 := A2.cell 3 _ rfl
  have a4 := A2.cell 4 _ rfl
  have d0 := D2.cell 0 _ rfl
  have d1 := D2.cell 1 _ rfl
  have d2 := D2.cell 2 _ rfl
  have hok : spOk su sx sy wd ht s fo = true := ok_yes k1 k2 k3
  obtain ⟨⟨a1', a2', a3', a4', a5', a6'⟩, ⟨b1', b2', b3', b4'⟩, ⟨c1', c2'⟩, ⟨d1', d2'⟩, ⟨e1', e2'⟩, ⟨f1', f2'⟩⟩ := sp_bounds hok
  have m1 : wrap64 ((wd - 1) * su) = (wd - 1) * su := wrap_id (by omega) (by omega)
  have m2 : wrap64 ((ht - 1) * su) = (ht - 1) * su := wrap_id (by omega) (by omega)
  have m3 : wrap64 (2 * fo * su) = 2 * fo * su := wrap_id (by omega) (by omega)
  have cP := hide (fun W => prime_any (spX sx wd su) (spX sy ht su) (spZ fo su) W)
  rw [sp_right hok] at cP
  have HV := hide (spV_yes hok)
  clear hok k1 k2 k3
  generalize prI true (gI (spX sx wd su) (spX sy ht su) (spZ fo su)) (spX sx wd su) = px at *
  generalize prI true (gI (spX sx wd su) (spX sy ht su) (spZ fo su)) (spX sy ht su) = py at *
  generalize prI true (gI (spX sx wd su) (spX sy ht su) (spZ fo su)) (spZ fo su) = pz at *
  unfold spX spZ at cP
  go_wp2_with fail
  refine (unhide cP _).mono ?_
  rintro e W3 ⟨rfl, hx⟩
  have A3 := A2.kept hx
  have D3 := D2.kept hx
  have R3 := R2.kept hx
  have B3 := below_call B2 hx
  clear hx A2 D2 R2 B2
  clear a0 a1 a2 a3 a4 d0 d1 d2
  have r0 := R3.cell 0 _ rfl
  have r1 := R3.cell 1 _ rfl
  have r2 := R3.cell 2 _ rfl
  have g0 := R3.free 0
  have g1 := R3.free 1
  have g2 := R3.free 2
  go_wp2_with fail
  rw [unhide HV]
  exact bodyPost_ret (v := .agg #[.int .i64 px, .int .i64 py, .int .i64 pz]) (by simp [results, Try.results18, go_sem, r0, r1, r2]) rfl ⟨rfl, ((B3.setCell lob _).setCell lob _).setCell lob _⟩
end Go.Proofs.Ytmacbegchdjdnaa
