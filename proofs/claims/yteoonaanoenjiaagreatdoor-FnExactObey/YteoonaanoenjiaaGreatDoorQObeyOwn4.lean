/- Several texts in one: SpB, VecE, VecI, WideT, SpD, BlD. -/
import Derived.Lib.QuietBelow
import Derived.Test.YteoonaanoenjiaaGreatDoorQObeyOwn3
namespace Go.Proofs.YteoonaanoenjiaaGreatDoor
open Go.RowKit Go.Sort
set_option linter.unusedVariables false
theorem isD (lo n hi : Int) : (decide (lo ≤ n) && decide (n ≤ hi)) = decide (lo ≤ n ∧ n ≤ hi) := by rw [Bool.decide_and]
theorem ok_no1 {su sx sy wd ht fo : Int} {s : ByteArray} (h : frameB wd ht s = false) : spOk su sx sy wd ht s fo = false := by unfold spOk; rw [h]; simp
theorem ok_no2 {su sx sy wd ht fo : Int} {s : ByteArray} (h : focB fo = false) : spOk su sx sy wd ht s fo = false := by unfold spOk; rw [h]; simp
theorem ok_no3 {su sx sy wd ht fo : Int} {s : ByteArray} (h : weighB su sx sy = false) : spOk su sx sy wd ht s fo = false := by unfold spOk; rw [h]; simp
theorem ok_yes {su sx sy wd ht fo : Int} {s : ByteArray} (h : weighB su sx sy = true) (h1 : frameB wd ht s = true) (h2 : focB fo = true) : spOk su sx sy wd ht s fo = true := by unfold spOk; rw [h, h1, h2]; rfl
set_option maxHeartbeats 2000000 in
set_option maxRecDepth 100000 in
theorem specSpotOf_any (ar su sx sy : Int) (ed : Bool) (wd ht : Int) (s : ByteArray) (fo : Int) (w : World) :
    Calls Tryz.prog 111 #[.agg #[.int .i64 ar, .int .i64 su, .int .i64 sx, .int .i64 sy, .bool ed], .agg #[.int .i64 wd, .int .i64 ht, .string s], .int .i64 fo] w fun e w' => e = .returned (spV su sx sy wd ht s fo) ∧ Below w.heap.size w w' := by
  have A0 := ((blk_new w [.int .i64 ar, .int .i64 su, .int .i64 sx, .int .i64 sy, .bool ed] 163).alloc (.cells #[.int .i64 wd, .int .i64 ht, .string s] 43)).alloc (.cells #[.int .i64 0, .int .i64 0, .int .i64 0] 111)
  have D0 := (blk_new (w.alloc (.cells #[.int .i64 ar, .int .i64 su, .int .i64 sx, .int .i64 sy, .bool ed] 163)) [.int .i64 wd, .int .i64 ht, .string s] 43).alloc (.cells #[.int .i64 0, .int .i64 0, .int .i64 0] 111)
  have R0 := blk_new ((w.alloc (.cells #[.int .i64 ar, .int .i64 su, .int .i64 sx, .int .i64 sy, .bool ed] 163)).alloc (.cells #[.int .i64 wd, .int .i64 ht, .string s] 43)) [.int .i64 0, .int .i64 0, .int .i64 0] 111
  have B0 := below3 w (.cells #[.int .i64 ar, .int .i64 su, .int .i64 sx, .int .i64 sy, .bool ed] 163) (.cells #[.int .i64 wd, .int .i64 ht, .string s] 43) (.cells #[.int .i64 0, .int .i64 0, .int .i64 0] 111)
  have e1 : (w.alloc (.cells #[.int .i64 ar, .int .i64 su, .int .i64 sx, .int .i64 sy, .bool ed] 163)).heap.size = w.heap.size + 1 := by simp
  have e2 : ((w.alloc (.cells #[.int .i64 ar, .int .i64 su, .int .i64 sx, .int .i64 sy, .bool ed] 163)).alloc (.cells #[.int .i64 wd, .int .i64 ht, .string s] 43)).heap.size = w.heap.size + 1 + 1 := by simp
  rw [e1] at D0
  rw [e2] at R0
  clear e1 e2
  go_enter Tryz.func111, Tryz.ntmps111
  go_wp2_with fail
  generalize ((w.alloc (.cells #[.int .i64 ar, .int .i64 su, .int .i64 sx, .int .i64 sy, .bool ed] 163)).alloc (.cells #[.int .i64 wd, .int .i64 ht, .string s] 43)).alloc (.cells #[.int .i64 0, .int .i64 0, .int .i64 0] 111) = W0 at A0 D0 R0 B0 ⊢
  obtain ⟨ob, hob⟩ : ∃ ob, ob = w.heap.size + 1 + 1 := ⟨_, rfl⟩
  obtain ⟨db, hdb⟩ : ∃ db, db = w.heap.size + 1 := ⟨_, rfl⟩
  obtain ⟨fb, hfb⟩ : ∃ fb, fb = w.heap.size := ⟨_, rfl⟩
  rw [← hob] at R0 ⊢
  rw [← hdb] at D0 ⊢
  rw [← hfb] at A0 ⊢
  have lob : w.heap.size ≤ ob := by omega
  clear hob hdb hfb
  refine (specFrameRight_any wd ht s _).mono ?_
  rintro e W1 ⟨rfl, hx⟩
  have A1 := A0.kept hx
  have D1 := D0.kept hx
  have R1 := R0.kept hx
  have B1 := below_call B0 hx
  clear hx A0 D0 R0 B0
  cases k1 : frameB wd ht s
  case false =>
    obtain ⟨r0, r1, r2⟩ := bcs3 (R1)
    obtain ⟨g0, g1, g2⟩ := bfs3 (R1)
    have HV : Hid (spV su sx sy wd ht s fo = _) := yz (spV_no (ok_no1 k1))
    go_wp2_with fail
    rw [yx HV]
    exact bodyPost_ret (v := .agg #[.int .i64 0, .int .i64 0, .int .i64 0]) (by simp [results, Tryz.results111, go_sem, r0, r1, r2]) rfl ⟨rfl, ((B1.setCell lob _).setCell lob _).setCell lob _⟩
  obtain ⟨a0, a1, a2, a3, a4⟩ := bcs5 (A1)
  obtain ⟨d0, d1, d2⟩ := bcs3 (D1)
  go_wp2_with fail
  refine (l02Is_any fo 1 40 _).mono ?_
  rintro e W2 ⟨rfl, hw⟩
  rw [hw]
  clear hw W2
  rw [isD, show decide (1 ≤ fo ∧ fo ≤ 40) = focB fo from rfl]
  cases k2 : focB fo
  case false =>
    obtain ⟨r0, r1, r2⟩ := bcs3 (R1)
    obtain ⟨g0, g1, g2⟩ := bfs3 (R1)
    have HV : Hid (spV su sx sy wd ht s fo = _) := yz (spV_no (ok_no2 k2))
    go_wp2_with fail
    rw [yx HV]
    exact bodyPost_ret (v := .agg #[.int .i64 0, .int .i64 0, .int .i64 0]) (by simp [results, Tryz.results111, go_sem, r0, r1, r2]) rfl ⟨rfl, ((B1.setCell lob _).setCell lob _).setCell lob _⟩
  go_wp2_with fail
  refine (l02Is_any su 1 10000 _).mono ?_
  rintro e W2 ⟨rfl, hw⟩
  rw [hw]
  clear hw W2
  rw [isD]
  by_cases k3 : 1 ≤ su ∧ su ≤ 10000
  case neg =>
    rw [decide_eq_false k3]
    obtain ⟨r0, r1, r2⟩ := bcs3 (R1)
    obtain ⟨g0, g1, g2⟩ := bfs3 (R1)
    have HV : Hid (spV su sx sy wd ht s fo = _) := yz (spV_no (ok_no3 (weighB_no (by omega))))
    go_wp2_with fail
    rw [yx HV]
    exact bodyPost_ret (v := .agg #[.int .i64 0, .int .i64 0, .int .i64 0]) (by simp [results, Tryz.results111, go_sem, r0, r1, r2]) rfl ⟨rfl, ((B1.setCell lob _).setCell lob _).setCell lob _⟩
  rw [decide_eq_true k3]
  obtain ⟨s1, s2⟩ := k3
  go_wp2_with fail
  refine (l02Is_any sx 0 (15 * su) _).mono ?_
  rintro e W2 ⟨rfl, hw⟩
  rw [hw]
  clear hw W2
  rw [isD]
  by_cases k4 : 0 ≤ sx ∧ sx ≤ 15 * su
  case neg =>
    rw [decide_eq_false k4]
    obtain ⟨r0, r1, r2⟩ := bcs3 (R1)
    obtain ⟨g0, g1, g2⟩ := bfs3 (R1)
    have HV : Hid (spV su sx sy wd ht s fo = _) := yz (spV_no (ok_no3 (weighB_no (by omega))))
    go_wp2_with fail
    rw [yx HV]
    exact bodyPost_ret (v := .agg #[.int .i64 0, .int .i64 0, .int .i64 0]) (by simp [results, Tryz.results111, go_sem, r0, r1, r2]) rfl ⟨rfl, ((B1.setCell lob _).setCell lob _).setCell lob _⟩
  rw [decide_eq_true k4]
  go_wp2_with fail
  refine (l02Is_any sy 0 (11 * su) _).mono ?_
  rintro e W2 ⟨rfl, hw⟩
  rw [hw]
  clear hw W2
  rw [isD]
  by_cases k5 : 0 ≤ sy ∧ sy ≤ 11 * su
  case neg =>
    rw [decide_eq_false k5]
    obtain ⟨r0, r1, r2⟩ := bcs3 (R1)
    obtain ⟨g0, g1, g2⟩ := bfs3 (R1)
    have HV : Hid (spV su sx sy wd ht s fo = _) := yz (spV_no (ok_no3 (weighB_no (by omega))))
    go_wp2_with fail
    rw [yx HV]
    exact bodyPost_ret (v := .agg #[.int .i64 0, .int .i64 0, .int .i64 0]) (by simp [results, Tryz.results111, go_sem, r0, r1, r2]) rfl ⟨rfl, ((B1.setCell lob _).setCell lob _).setCell lob _⟩
  rw [decide_eq_true k5]
  have hok : spOk su sx sy wd ht s fo = true := ok_yes (decide_eq_true ⟨s1, s2, k4.1, k4.2, k5.1, k5.2⟩) k1 k2
  have cL := yz (fun W => l05Spot_any ar su sx sy ed wd ht s fo W hok)
  have cP := yz (fun W => l02Prime_any _ _ _ W (sp_right hok))
  have HV := yz (spV_yes hok)
  unfold prI at HV
  simp only [if_true] at HV
  clear hok k1 k2 k4 k5 s1 s2
  generalize wrap64 ((spX sx wd su).tdiv (gI (spX sx wd su) (spX sy ht su) (spZ fo su))) = px at *
  generalize wrap64 ((spX sy ht su).tdiv (gI (spX sx wd su) (spX sy ht su) (spZ fo su))) = py at *
  generalize wrap64 ((spZ fo su).tdiv (gI (spX sx wd su) (spX sy ht su) (spZ fo su))) = pz at *
  generalize spX sx wd su = vx at *
  generalize spX sy ht su = vy at *
  generalize spZ fo su = vz at *
  go_wp2_with fail
  refine (yx cL _).mono ?_
  rintro e W2 ⟨rfl, hx⟩
  have A2 := A1.kept hx
  have D2 := D1.kept hx
  have R2 := R1.kept hx
  have B2 := below_call B1 hx
  clear hx A1 D1 R1 B1
  clear a0 a1 a2 a3 a4 d0 d1 d2
  go_wp2_with fail
  refine (yx cP _).mono ?_
  rintro e W3 ⟨rfl, hx⟩
  have A3 := A2.kept hx
  have D3 := D2.kept hx
  have R3 := R2.kept hx
  have B3 := below_call B2 hx
  clear hx A2 D2 R2 B2
  obtain ⟨r0, r1, r2⟩ := bcs3 (R3)
  obtain ⟨g0, g1, g2⟩ := bfs3 (R3)
  go_wp2_with fail
  rw [yx HV]
  exact bodyPost_ret (v := .agg #[.int .i64 px, .int .i64 py, .int .i64 pz]) (by simp [results, Tryz.results111, go_sem, r0, r1, r2]) rfl ⟨rfl, ((B3.setCell lob _).setCell lob _).setCell lob _⟩
set_option maxHeartbeats 2000000 in
set_option maxRecDepth 100000 in
theorem spotOf_any (ar su sx sy : Int) (ed : Bool) (wd ht : Int) (s : ByteArray) (fo : Int) (w : World) :
    Calls Tryz.prog 155 #[.agg #[.int .i64 ar, .int .i64 su, .int .i64 sx, .int .i64 sy, .bool ed], .agg #[.int .i64 wd, .int .i64 ht, .string s], .int .i64 fo] w fun e w' => e = .returned (spV su sx sy wd ht s fo) ∧ Below w.heap.size w w' := by
  have A0 := ((blk_new w [.int .i64 ar, .int .i64 su, .int .i64 sx, .int .i64 sy, .bool ed] 163).alloc (.cells #[.int .i64 wd, .int .i64 ht, .string s] 43)).alloc (.cells #[.int .i64 0, .int .i64 0, .int .i64 0] 111)
  have D0 := (blk_new (w.alloc (.cells #[.int .i64 ar, .int .i64 su, .int .i64 sx, .int .i64 sy, .bool ed] 163)) [.int .i64 wd, .int .i64 ht, .string s] 43).alloc (.cells #[.int .i64 0, .int .i64 0, .int .i64 0] 111)
  have R0 := blk_new ((w.alloc (.cells #[.int .i64 ar, .int .i64 su, .int .i64 sx, .int .i64 sy, .bool ed] 163)).alloc (.cells #[.int .i64 wd, .int .i64 ht, .string s] 43)) [.int .i64 0, .int .i64 0, .int .i64 0] 111
  have B0 := below3 w (.cells #[.int .i64 ar, .int .i64 su, .int .i64 sx, .int .i64 sy, .bool ed] 163) (.cells #[.int .i64 wd, .int .i64 ht, .string s] 43) (.cells #[.int .i64 0, .int .i64 0, .int .i64 0] 111)
  have e1 : (w.alloc (.cells #[.int .i64 ar, .int .i64 su, .int .i64 sx, .int .i64 sy, .bool ed] 163)).heap.size = w.heap.size + 1 := by simp
  have e2 : ((w.alloc (.cells #[.int .i64 ar, .int .i64 su, .int .i64 sx, .int .i64 sy, .bool ed] 163)).alloc (.cells #[.int .i64 wd, .int .i64 ht, .string s] 43)).heap.size = w.heap.size + 1 + 1 := by simp
  rw [e1] at D0
  rw [e2] at R0
  clear e1 e2
  go_enter Tryz.func155, Tryz.ntmps155
  go_wp2_with fail
  generalize ((w.alloc (.cells #[.int .i64 ar, .int .i64 su, .int .i64 sx, .int .i64 sy, .bool ed] 163)).alloc (.cells #[.int .i64 wd, .int .i64 ht, .string s] 43)).alloc (.cells #[.int .i64 0, .int .i64 0, .int .i64 0] 111) = W0 at A0 D0 R0 B0 ⊢
  obtain ⟨ob, hob⟩ : ∃ ob, ob = w.heap.size + 1 + 1 := ⟨_, rfl⟩
  obtain ⟨db, hdb⟩ : ∃ db, db = w.heap.size + 1 := ⟨_, rfl⟩
  obtain ⟨fb, hfb⟩ : ∃ fb, fb = w.heap.size := ⟨_, rfl⟩
  rw [← hob] at R0 ⊢
  rw [← hdb] at D0 ⊢
  rw [← hfb] at A0 ⊢
  have lob : w.heap.size ≤ ob := by omega
  clear hob hdb hfb
  refine (isWeighed_any ar su sx sy ed _).mono ?_
  rintro e W1 ⟨rfl, hx⟩
  have A1 := A0.kept hx
  have D1 := D0.kept hx
  have R1 := R0.kept hx
  have B1 := below_call B0 hx
  clear hx A0 D0 R0 B0
  cases k1 : weighB su sx sy
  case false =>
    obtain ⟨r0, r1, r2⟩ := bcs3 (R1)
    obtain ⟨g0, g1, g2⟩ := bfs3 (R1)
    have HV : Hid (spV su sx sy wd ht s fo = _) := yz (spV_no (ok_no3 k1))
    go_wp2_with fail
    rw [yx HV]
    exact bodyPost_ret (v := .agg #[.int .i64 0, .int .i64 0, .int .i64 0]) (by simp [results, Tryz.results155, go_sem, r0, r1, r2]) rfl ⟨rfl, ((B1.setCell lob _).setCell lob _).setCell lob _⟩
  obtain ⟨a0, a1, a2, a3, a4⟩ := bcs5 (A1)
  obtain ⟨d0, d1, d2⟩ := bcs3 (D1)
  go_wp2_with fail
  refine (frameRight_any wd ht s _).mono ?_
  rintro e W2 ⟨rfl, hx⟩
  have A2 := A1.kept hx
  have D2 := D1.kept hx
  have R2 := R1.kept hx
  have B2 := below_call B1 hx
  clear hx A1 D1 R1 B1
  clear a0 a1 a2 a3 a4 d0 d1 d2
  cases k2 : frameB wd ht s
  case false =>
    obtain ⟨r0, r1, r2⟩ := bcs3 (R2)
    obtain ⟨g0, g1, g2⟩ := bfs3 (R2)
    have HV : Hid (spV su sx sy wd ht s fo = _) := yz (spV_no (ok_no1 k2))
    go_wp2_with fail
    rw [yx HV]
    exact bodyPost_ret (v := .agg #[.int .i64 0, .int .i64 0, .int .i64 0]) (by simp [results, Tryz.results155, go_sem, r0, r1, r2]) rfl ⟨rfl, ((B2.setCell lob _).setCell lob _).setCell lob _⟩
  go_wp2_with fail
  refine (isFocal_any fo _).mono ?_
  rintro e W3 ⟨rfl, hw⟩
  rw [hw]
  clear hw W3
  cases k3 : focB fo
  case false =>
    obtain ⟨r0, r1, r2⟩ := bcs3 (R2)
    obtain ⟨g0, g1, g2⟩ := bfs3 (R2)
    have HV : Hid (spV su sx sy wd ht s fo = _) := yz (spV_no (ok_no2 k3))
    go_wp2_with fail
    rw [yx HV]
    exact bodyPost_ret (v := .agg #[.int .i64 0, .int .i64 0, .int .i64 0]) (by simp [results, Tryz.results155, go_sem, r0, r1, r2]) rfl ⟨rfl, ((B2.setCell lob _).setCell lob _).setCell lob _⟩
  obtain ⟨a0, a1, a2, a3, a4⟩ := bcs5 (A2)
  obtain ⟨d0, d1, d2⟩ := bcs3 (D2)
  have hok : spOk su sx sy wd ht s fo = true := ok_yes k1 k2 k3
  obtain ⟨⟨a1', a2', a3', a4', a5', a6'⟩, ⟨b1', b2', b3', b4'⟩, ⟨c1', c2'⟩, ⟨d1', d2'⟩, ⟨e1', e2'⟩, ⟨f1', f2'⟩⟩ := sp_bounds hok
  have m1 : wrap64 ((wd - 1) * su) = (wd - 1) * su := wrap_id (by omega) (by omega)
  have m2 : wrap64 ((ht - 1) * su) = (ht - 1) * su := wrap_id (by omega) (by omega)
  have m3 : wrap64 (2 * fo * su) = 2 * fo * su := wrap_id (by omega) (by omega)
  have cP := yz (fun W => prime_any (spX sx wd su) (spX sy ht su) (spZ fo su) W)
  rw [sp_right hok] at cP
  have HV := yz (spV_yes hok)
  clear hok k1 k2 k3
  generalize prI true (gI (spX sx wd su) (spX sy ht su) (spZ fo su)) (spX sx wd su) = px at *
  generalize prI true (gI (spX sx wd su) (spX sy ht su) (spZ fo su)) (spX sy ht su) = py at *
  generalize prI true (gI (spX sx wd su) (spX sy ht su) (spZ fo su)) (spZ fo su) = pz at *
  unfold spX spZ at cP
  go_wp2_with fail
  refine (yx cP _).mono ?_
  rintro e W3 ⟨rfl, hx⟩
  have A3 := A2.kept hx
  have D3 := D2.kept hx
  have R3 := R2.kept hx
  have B3 := below_call B2 hx
  clear hx A2 D2 R2 B2
  clear a0 a1 a2 a3 a4 d0 d1 d2
  obtain ⟨r0, r1, r2⟩ := bcs3 (R3)
  obtain ⟨g0, g1, g2⟩ := bfs3 (R3)
  go_wp2_with fail
  rw [yx HV]
  exact bodyPost_ret (v := .agg #[.int .i64 px, .int .i64 py, .int .i64 pz]) (by simp [results, Tryz.results155, go_sem, r0, r1, r2]) rfl ⟨rfl, ((B3.setCell lob _).setCell lob _).setCell lob _⟩
set_option maxHeartbeats 2000000 in
set_option maxRecDepth 100000 in
theorem det_any (a1 a2 a3 b1 b2 b3 c1 c2 c3 : Int) (w : World) :
    Calls Tryz.prog 228 #[.agg #[.int .i64 a1, .int .i64 a2, .int .i64 a3], .agg #[.int .i64 b1, .int .i64 b2, .int .i64 b3], .agg #[.int .i64 c1, .int .i64 c2, .int .i64 c3]] w fun e w' => e = .returned (.int .i64 (detI a1 a2 a3 b1 b2 b3 c1 c2 c3)) ∧ Below w.heap.size w w' := by
  go_enter Tryz.func228, Tryz.ntmps228
  go_wp2_with fail
  refine (vecRight_any a1 a2 a3 _).mono ?_
  rintro e w1 ⟨rfl, hB1⟩
  have hB : Below w.heap.size w w1 := below_call (below3 _ _ _ _) hB1
  have hs : w.heap.size + 3 ≤ w1.heap.size := by have := hB1.size; simpa [Nat.add_assoc] using this
  have va : VecAt w1 w.heap.size a1 a2 a3 := (((by simpa using vecAt_new w a1 a2 a3 _ : VecAt _ w.heap.size a1 a2 a3).alloc (by simp) _).alloc (by simp; omega) _).kept (by simp; omega) hB1
  have vb : VecAt w1 (w.heap.size + 1) b1 b2 b3 := ((by simpa using vecAt_new (w.alloc _) b1 b2 b3 _ : VecAt _ (w.heap.size + 1) b1 b2 b3).alloc (by simp) _).kept (by simp) hB1
  have vc : VecAt w1 (w.heap.size + 1 + 1) c1 c2 c3 := (by simpa using vecAt_new ((w.alloc _).alloc _) c1 c2 c3 _ : VecAt _ (w.heap.size + 1 + 1) c1 c2 c3).kept (by simp) hB1
  clear hB1
  have hva := va
  obtain ⟨ca0, ca1, ca2⟩ := va
  have hvb := vb
  obtain ⟨cb0, cb1, cb2⟩ := vb
  have hvc := vc
  obtain ⟨cc0, cc1, cc2⟩ := vc
  cases ha : rightB a1 a2 a3
  · go_wp2_with fail
    go_ret
    exact ⟨by simp [detI, ha], hB⟩
  · go_wp2_with fail
    refine (vecRight_any b1 b2 b3 _).mono ?_
    rintro e w2 ⟨rfl, hB2⟩
    have va := hva.kept (by omega) hB2
    have vb := hvb.kept (by omega) hB2
    have vc := hvc.kept (by omega) hB2
    replace hs : w.heap.size + 3 ≤ w2.heap.size := by have := hB2.size; omega
    replace hB : Below w.heap.size w w2 := below_call hB hB2
    clear hva ca0 ca1 ca2 hvb cb0 cb1 cb2 hvc cc0 cc1 cc2
    clear hB2
    have hva := va
    obtain ⟨ca0, ca1, ca2⟩ := va
    have hvb := vb
    obtain ⟨cb0, cb1, cb2⟩ := vb
    have hvc := vc
    obtain ⟨cc0, cc1, cc2⟩ := vc
    cases hb : rightB b1 b2 b3
    · go_wp2_with fail
      go_ret
      exact ⟨by simp [detI, hb], hB⟩
    · go_wp2_with fail
      refine (vecRight_any c1 c2 c3 _).mono ?_
      rintro e w3 ⟨rfl, hB3⟩
      have va := hva.kept (by omega) hB3
      have vb := hvb.kept (by omega) hB3
      have vc := hvc.kept (by omega) hB3
      replace hs : w.heap.size + 3 ≤ w3.heap.size := by have := hB3.size; omega
      replace hB : Below w.heap.size w w3 := below_call hB hB3
      clear hva ca0 ca1 ca2 hvb cb0 cb1 cb2 hvc cc0 cc1 cc2
      clear hB3
      have hva := va
      obtain ⟨ca0, ca1, ca2⟩ := va
      have hvb := vb
      obtain ⟨cb0, cb1, cb2⟩ := vb
      have hvc := vc
      obtain ⟨cc0, cc1, cc2⟩ := vc
      cases hc : rightB c1 c2 c3
      · go_wp2_with fail
        go_ret
        exact ⟨by simp [detI, hc], hB⟩
      · go_wp2_with fail
        clear hva hvb hvc
        have HD := yz (show detI a1 a2 a3 b1 b2 b3 c1 c2 c3 = dotW (crW a2 a3 b2 b3) (crW a3 a1 b3 b1) (crW a1 a2 b1 b2) c1 c2 c3 by simp [detI, ha, hb, hc])
        have ka0 := cell_regrown ca0
        have ka1 := cell_regrown ca1
        have ka2 := cell_regrown ca2
        have kb0 := cell_regrown cb0
        have kb1 := cell_regrown cb1
        have kb2 := cell_regrown cb2
        have kc0 := cell_regrown cc0
        have kc1 := cell_regrown cc1
        have kc2 := cell_regrown cc2
        refine wp_region_quiet_below (by kernel_rfl) (by kernel_rfl) ?_
        repeat (quiet_step (first | exact Calls.regrown_of (cross_any a1 a2 a3 b1 b2 b3 _) | exact Calls.regrown_of (times_any _ _ _ c1 c2 c3 _)))
        refine wpQuiet_nil ?_
        intro _ hw'
        obtain ⟨⟨dq, osq⟩, hw''⟩ := hw'
        subst hw''
        clear ca0 ka0 ca1 ka1 ca2 ka2 cb0 kb0 cb1 kb1 cb2 kb2 cc0 kc0 cc1 kc1 cc2 kc2
        go_wp2
        go_ret
        exact ⟨by rw [yx HD]; simp [crI], below_call hB (below_regrown w3 dq osq)⟩
set_option maxRecDepth 100000 in
theorem square_any (x y z : Int) (w : World) :
    Calls Tryz.prog 231 #[.agg #[.int .i64 x, .int .i64 y, .int .i64 z]] w fun e w' => e = .returned (.int .i64 (dotW x y z x y z)) ∧ Below w.heap.size w w' := by
  go_enter Tryz.func231, Tryz.ntmps231
  go_wp2_with fail
  refine (times_any x y z x y z _).mono ?_
  rintro e w1 ⟨rfl, hB1⟩
  have hB : Below w.heap.size w w1 := below_call (below1 _ _) hB1
  go_wp2_with fail
  go_ret
  exact ⟨rfl, hB⟩
set_option maxRecDepth 100000 in
theorem isWide_any (x y z : Int) (w : World) :
    Calls Tryz.prog 119 #[.agg #[.int .i64 x, .int .i64 y, .int .i64 z]] w fun e w' => e = .returned (.bool (wideB x y z)) ∧ Below w.heap.size w w' := by
  go_enter Tryz.func119, Tryz.ntmps119
  go_wp2_with fail
  refine (vecRight_any x y z _).mono ?_
  rintro e w1 ⟨rfl, hB1⟩
  have hB : Below w.heap.size w w1 := below_call (below1 _ _) hB1
  have va : VecAt w1 w.heap.size x y z := (vecAt_new w x y z _).kept (by simp) hB1
  clear hB1
  obtain ⟨ca0, ca1, ca2⟩ := va
  cases ha : rightB x y z
  · go_wp2_with fail
    go_ret
    exact ⟨by simp [wideB, ha], hB⟩
  · go_wp2_with fail
    refine (within_any 1800 x y z _ (by omega) (by omega)).mono ?_
    rintro e w2 ⟨rfl, hB2⟩
    replace hB := below_call hB hB2
    go_wp2_with fail
    go_ret
    exact ⟨by simp [wideB, ha], hB⟩
set_option maxRecDepth 100000 in
theorem isSmall_any (x y z : Int) (w : World) :
    Calls Tryz.prog 192 #[.agg #[.int .i64 x, .int .i64 y, .int .i64 z]] w fun e w' => e = .returned (.bool (smallB x y z)) ∧ Below w.heap.size w w' := by
  go_enter Tryz.func192, Tryz.ntmps192
  go_wp2_with fail
  refine (vecRight_any x y z _).mono ?_
  rintro e w1 ⟨rfl, hB1⟩
  have hB : Below w.heap.size w w1 := below_call (below1 _ _) hB1
  have va : VecAt w1 w.heap.size x y z := (vecAt_new w x y z _).kept (by simp) hB1
  clear hB1
  obtain ⟨ca0, ca1, ca2⟩ := va
  cases ha : rightB x y z
  · go_wp2_with fail
    go_ret
    exact ⟨by simp [smallB, ha], hB⟩
  · go_wp2_with fail
    refine (within_any 10 x y z _ (by omega) (by omega)).mono ?_
    rintro e w2 ⟨rfl, hB2⟩
    replace hB := below_call hB hB2
    go_wp2_with fail
    go_ret
    exact ⟨by simp [smallB, ha], hB⟩
set_option maxRecDepth 100000 in
theorem signed_any (n : Int) (w : World) :
    Calls Tryz.prog 229 #[.int .i64 n] w fun e w' => e = .returned (.int .i64 (ssqW n)) ∧ w' = w := by
  by_cases h : n < 0
  · have HS := yz (show ssqW n = wrap64 (wrap64 (-n) * n) by unfold ssqW; rw [if_pos h])
    go_enter Tryz.func229, Tryz.ntmps229
    go_wp2
    go_ret
    exact ⟨by rw [yx HS]; rfl, rfl⟩
  · have HS := yz (show ssqW n = wrap64 (n * n) by unfold ssqW; rw [if_neg h])
    go_enter Tryz.func229, Tryz.ntmps229
    go_wp2
    go_ret
    exact ⟨by rw [yx HS]; rfl, rfl⟩
set_option maxRecDepth 100000 in
theorem order_any (a b : Int) (w : World) :
    Calls Tryz.prog 227 #[.int .i64 a, .int .i64 b] w fun e w' => e = .returned (.int .i64 (ordI a b)) ∧ w' = w := by
  by_cases h : a < b
  · have HS := yz (show ordI a b = -1 by unfold ordI; rw [if_pos h])
    go_enter Tryz.func227, Tryz.ntmps227
    go_wp2
    go_ret
    exact ⟨by rw [yx HS]; rfl, rfl⟩
  · by_cases h2 : b < a
    · have HS := yz (show ordI a b = 1 by unfold ordI; rw [if_neg h, if_pos h2])
      go_enter Tryz.func227, Tryz.ntmps227
      go_wp2
      go_ret
      exact ⟨by rw [yx HS]; rfl, rfl⟩
    · have HS := yz (show ordI a b = 0 by unfold ordI; rw [if_neg h, if_neg h2])
      go_enter Tryz.func227, Tryz.ntmps227
      go_wp2
      go_ret
      exact ⟨by rw [yx HS]; rfl, rfl⟩
set_option maxRecDepth 100000 in
theorem lengths_any (a1 a2 a3 b1 b2 b3 : Int) (w : World) :
    Calls Tryz.prog 230 #[.func (.func 231) #[.agg #[.int .i64 a1, .int .i64 a2, .int .i64 a3]] #[], .func (.func 231) #[.agg #[.int .i64 b1, .int .i64 b2, .int .i64 b3]] #[]] w fun e w' => e = .returned (.int .i64 (wrap64 (dotW a1 a2 a3 a1 a2 a3 * dotW b1 b2 b3 b1 b2 b3))) ∧ Below w.heap.size w w' := by
  go_enter Tryz.func230, Tryz.ntmps230
  go_wp2_with fail
  refine (square_any a1 a2 a3 _).mono ?_
  rintro e w1 ⟨rfl, hB1⟩
  go_wp2_with fail
  refine (square_any b1 b2 b3 _).mono ?_
  rintro e w2 ⟨rfl, hB2⟩
  go_wp2_with fail
  go_ret
  exact ⟨rfl, below_call hB1 hB2⟩
theorem wideB_iff {x y z : Int} (h : wideB x y z = true) : rightB x y z = true ∧ withinB 1800 x y z = true := by simpa [wideB] using h
theorem smallB_iff {x y z : Int} (h : smallB x y z = true) : rightB x y z = true ∧ withinB 10 x y z = true := by simpa [smallB] using h
theorem cos_eq {a1 a2 a3 b1 b2 b3 c1 c2 c3 d1 d2 d3 : Int} (ha : wideB a1 a2 a3 = true) (hb : wideB b1 b2 b3 = true) (hc : smallB c1 c2 c3 = true) (hd : smallB d1 d2 d3 = true) :
    cosI a1 a2 a3 b1 b2 b3 c1 c2 c3 d1 d2 d3 = ordI (wrap64 (ssqW (dotI a1 a2 a3 b1 b2 b3) * wrap64 (dotW c1 c2 c3 c1 c2 c3 * dotW d1 d2 d3 d1 d2 d3))) (wrap64 (ssqW (dotI c1 c2 c3 d1 d2 d3) * wrap64 (dotW a1 a2 a3 a1 a2 a3 * dotW b1 b2 b3 b1 b2 b3))) := by
  have h := cos_impl (wideB_iff ha).2 (wideB_iff hb).2 (smallB_iff hc).2 (smallB_iff hd).2
  unfold cosI dotI
  rw [(wideB_iff ha).1, (wideB_iff hb).1, (smallB_iff hc).1, (smallB_iff hd).1, ha, hb, hc, hd, if_pos (by rfl), if_pos (by rfl), if_pos (by rfl), h.1, h.2]
set_option maxRecDepth 100000 in
theorem l04Wide_any (x y z : Int) (w : World) :
    Calls Tryz.prog 105 #[.agg #[.int .i64 x, .int .i64 y, .int .i64 z]] w fun e w' => e = .returned (.bool (wideB x y z)) ∧ Below w.heap.size w w' := by
  have A0 := vecAt_new w x y z 111
  have B0 := below1 w (.cells #[.int .i64 x, .int .i64 y, .int .i64 z] 111)
  have cR := yz (fun W => specRight_any x y z W)
  have cW := yz (fun W => l02Within_any 1800 x y z W (by omega) (by omega))
  have HW : Hid (wideB x y z = (rightB x y z && withinB 1800 x y z)) := yz rfl
  generalize wideB x y z = wv at *
  generalize withinB 1800 x y z = wi at *
  go_enter Tryz.func105, Tryz.ntmps105
  go_wp2_with fail
  refine (yx cR _).mono ?_
  rintro e w1 ⟨rfl, hx⟩
  obtain ⟨c0, c1, c2⟩ := A0.kept (World.block_lt_of_cell? _ _ A0.1) hx
  have B1 := below_call B0 hx
  clear hx B0 A0
  cases hr : rightB x y z
  · rw [hr] at HW
    go_wp2_with fail
    go_ret
    exact ⟨by rw [yx HW]; rfl, B1⟩
  · rw [hr] at HW
    go_wp2_with fail
    refine (yx cW _).mono ?_
    rintro e w2 ⟨rfl, hx⟩
    have B2 := below_call B1 hx
    clear hx B1
    go_wp2_with fail
    go_ret
    exact ⟨by rw [yx HW]; rfl, B2⟩
theorem info_vec : (Tryz.prog.info? 111).map (fun i => (i.zero, i.size, i.bytes)) = some (some (.agg #[.int .i64 0, .int .i64 0, .int .i64 0]), 3, 24) := by kernel_rfl
def vec3 (v : Int × Int × Int) : List Value := [.int .i64 v.1, .int .i64 v.2.1, .int .i64 v.2.2]
def flatV (S : List (Int × Int × Int)) : List Value := S.flatMap vec3
theorem flatV_app (A B : List (Int × Int × Int)) : flatV (A ++ B) = flatV A ++ flatV B := by unfold flatV; rw [List.flatMap_append]
theorem flatV_cell {S : List (Int × Int × Int)} {v : Value} (h : v ∈ flatV S) : v.oneCell' = true := by
  unfold flatV at h
  rw [List.mem_flatMap] at h
  obtain ⟨p, _, hp⟩ := h
  simp [vec3] at hp
  rcases hp with rfl | rfl | rfl <;> rfl
theorem ownV_none (w : World) (B : Nat) (h : B ≤ w.heap.size) : (w.alloc (.cells #[] 111)).ownsRow B 111 3 (.slice (some ⟨w.heap.size, 0, none⟩) 0 0) 0 (flatV []) :=
  ⟨rfl, .inr ⟨_, 0, #[], rfl, h, Array.getElem?_push_size, Nat.le_refl _, Nat.zero_le _, rfl, rfl⟩⟩
def spT (wd ht : Int) (s : ByteArray) (fo : Int) (b : Bl) : Int × Int × Int :=
  (spI (spOk b.su b.sx b.sy wd ht s fo) (spX b.sx wd b.su) (spX b.sy ht b.su) (spZ fo b.su) (spX b.sx wd b.su), spI (spOk b.su b.sx b.sy wd ht s fo) (spX b.sx wd b.su) (spX b.sy ht b.su) (spZ fo b.su) (spX b.sy ht b.su), spI (spOk b.su b.sx b.sy wd ht s fo) (spX b.sx wd b.su) (spX b.sy ht b.su) (spZ fo b.su) (spZ fo b.su))
def vecG (v : Int × Int × Int) : Value := .agg #[.int .i64 v.1, .int .i64 v.2.1, .int .i64 v.2.2]
theorem spT_v (wd ht : Int) (s : ByteArray) (fo : Int) (b : Bl) : spV b.su b.sx b.sy wd ht s fo = vecG (spT wd ht s fo b) := rfl
def keepS (wd ht : Int) (s : ByteArray) (fo : Int) (b : Bl) : Bool := goodB b.ar b.ed 1 20 && wideB (spT wd ht s fo b).1 (spT wd ht s fo b).2.1 (spT wd ht s fo b).2.2
def pickS (wd ht : Int) (s : ByteArray) (fo : Int) (S : List Bl) : List (Int × Int × Int) := (S.filter (keepS wd ht s fo)).map (spT wd ht s fo)
def spotsR (wd ht : Int) (s : ByteArray) (lv fo : Int) : List (Int × Int × Int) := if focB fo = true then pickS wd ht s fo (resB wd ht s lv) else []
theorem pick_len (wd ht : Int) (s : ByteArray) (fo : Int) (S : List Bl) : (pickS wd ht s fo S).length ≤ S.length := by
  unfold pickS
  rw [List.length_map]
  exact List.length_filter_le _ _
theorem pick_snoc (wd ht : Int) (s : ByteArray) (fo : Int) (S : List Bl) (k : Nat) (b : Bl) (hk : S[k]? = some b) : pickS wd ht s fo (S.take (k + 1)) = pickS wd ht s fo (S.take k) ++ (if keepS wd ht s fo b = true then [spT wd ht s fo b] else []) := by
  obtain ⟨hl, he⟩ := List.getElem?_eq_some_iff.1 hk
  have e : S.take (k + 1) = S.take k ++ [b] := by rw [List.take_succ_eq_append_getElem hl, he]
  unfold pickS
  rw [e, List.filter_append, List.map_append]
  congr 1
  cases h : keepS wd ht s fo b
  · rw [List.filter_cons_of_neg (by simp [h])]; rfl
  · rw [List.filter_cons_of_pos h]; rfl
theorem blob_cells {w : World} {B n : Nat} {a : Option Addr} {c : Nat} {S : List Bl} (h : w.ownsRow B 163 5 (.slice a n c) n (flatB S)) (hn : n = S.length) (k : Nat) (b : Bl) (hk : S[k]? = some b) :
    ∃ g, a = some ⟨g, 0, none⟩ ∧ B ≤ g ∧ g < w.heap.size ∧ w.cell? ⟨g, k * 5, none⟩ = some (.int .i64 b.ar) ∧ w.cell? ⟨g, k * 5 + 1, none⟩ = some (.int .i64 b.su) ∧ w.cell? ⟨g, k * 5 + 2, none⟩ = some (.int .i64 b.sx) ∧ w.cell? ⟨g, k * 5 + 3, none⟩ = some (.int .i64 b.sy) ∧ w.cell? ⟨g, k * 5 + 4, none⟩ = some (.bool b.ed) := by
  obtain ⟨hl, he⟩ := List.getElem?_eq_some_iff.1 hk
  rcases h.2 with ⟨h1, h0⟩ | ⟨g, cap, cur, hv, hb, hg, hnc, hcm, hcs, htake⟩
  · omega
  · injection hv with e1 e2 e3
    have fl : ∀ (S : List Bl) (k : Nat) (b : Bl), S[k]? = some b → ∀ j u, (blobL b)[j]? = some u → (flatB S)[k * 5 + j]? = some u := by
      intro S
      induction S with
      | nil => intro k b h; simp at h
      | cons x S ih =>
        intro k b h j u hu
        have e : flatB (x :: S) = blobL x ++ flatB S := by unfold flatB; simp
        have hj : j < 5 := (List.getElem?_eq_some_iff.1 hu).1
        rw [e]
        cases k with
        | zero =>
          simp at h
          subst h
          rw [List.getElem?_append_left (by show _ < 5; omega)]
          simpa using hu
        | succ k =>
          rw [List.getElem?_append_right (by show 5 ≤ _; omega)]
          rw [show (k + 1) * 5 + j - (blobL x).length = k * 5 + j by show _ - 5 = _; omega]
          exact ih k b (by simpa using h) j u hu
    have cl : ∀ j u, (blobL b)[j]? = some u → w.cell? ⟨g, k * 5 + j, none⟩ = some u := by
      intro j u hu
      have hj : j < 5 := (List.getElem?_eq_some_iff.1 hu).1
      have e := fl S k b hk j u hu
      rw [cell_of_row w g _ cur _ _ hg]
      rw [← htake, List.getElem?_take, if_pos (by omega)] at e
      simpa using e
    exact ⟨g, e1, hb, (Array.getElem?_eq_some_iff.1 hg).1, cl 0 _ rfl, cl 1 _ rfl, cl 2 _ rfl, cl 3 _ rfl, cl 4 _ rfl⟩
theorem resB_len' (wd ht : Int) (s : ByteArray) (lv : Int) : (resB wd ht s lv).length ≤ 8 := by
  unfold resB
  split
  · split
    · assumption
    · simp
  · simp
structure StS (w wr : World) (fb lo : Nat) (wd ht : Int) (s : ByteArray) (a : Option Addr) (n c : Nat) (S : List Bl) : Prop where
  fr : Blk wr fb [.int .i64 wd, .int .i64 ht, .string s] 43
  bl : wr.ownsRow w.heap.size 163 5 (.slice a n c) n (flatB S)
  lt : ∀ z, (Value.slice a n c).ownBlock = some z → z < lo
  lf : fb < lo
  lw : w.heap.size ≤ lo
  ll : lo ≤ wr.heap.size
  bel : Below w.heap.size w wr
theorem StS.kept {w wr wy : World} {fb lo : Nat} {wd ht : Int} {s : ByteArray} {a : Option Addr} {n c : Nat} {S : List Bl} (h : StS w wr fb lo wd ht s a n c S) (hB : Below wr.heap.size wr wy) : StS w wy fb lo wd ht s a n c S :=
  ⟨h.fr.kept hB, own_kept h.bl hB, h.lt, h.lf, h.lw, Nat.le_trans h.ll hB.size, below_call h.bel hB⟩
theorem StS.byRow {w wr wy : World} {fb lo : Nat} {wd ht : Int} {s : ByteArray} {a : Option Addr} {n c : Nat} {S : List Bl} {row : Option Nat} (h : StS w wr fb lo wd ht s a n c S) (hg : wr.grownBy wy row) (hr : ∀ g, row = some g → lo ≤ g) : StS w wy fb lo wd ht s a n c S := by
  have ne : ∀ b, b < lo → some b ≠ row := fun b hb e => by have := hr b e.symm; omega
  refine ⟨h.fr.grown hg (ne _ h.lf), h.bl.kept hg ?_, h.lt, h.lf, h.lw, Nat.le_trans h.ll hg.size, h.bel.trans ⟨hg.os, hg.tape, hg.output, hg.size, fun k hk => hg.block k (Nat.lt_of_lt_of_le hk h.bel.size) (ne k (by have := h.lw; omega))⟩⟩
  cases hv : (Value.slice a n c).ownBlock with
  | none => exact .inl rfl
  | some z => exact .inr (fun e => by have := h.lt z hv; exact ne z this e)
set_option maxHeartbeats 4000000 in
set_option maxRecDepth 100000 in
theorem specSpotsOf_any (wd ht : Int) (s : ByteArray) (lv fo : Int) (w : World) (hs : s.size ≤ maxLen) :
    Calls Tryz.prog 66 #[.agg #[.int .i64 wd, .int .i64 ht, .string s], .int .i64 lv, .int .i64 fo] w fun e w' => (∃ v, e = .returned v ∧ w'.ownsRow w.heap.size 111 3 v (spotsR wd ht s lv fo).length (flatV (spotsR wd ht s lv fo))) ∧ Below w.heap.size w w' := by
  obtain ⟨i0, hinf, hz0, hz1, hz2⟩ := info_parts info_vec
  have hm8 : 400 ≤ maxLen := by decide +kernel
  have cB := yz (fun W => specBlobsOf_any wd ht s lv W hs)
  have hml := resB_len' wd ht s lv
  have HR : Hid (spotsR wd ht s lv fo = if focB fo = true then pickS wd ht s fo (resB wd ht s lv) else []) := yz rfl
  generalize codeB wd ht s lv = code at *
  generalize resB wd ht s lv = S at *
  have A0 := blk_new w [.int .i64 wd, .int .i64 ht, .string s] 43
  have B0 := below1 w (.cells #[.int .i64 wd, .int .i64 ht, .string s] 43)
  go_enter Tryz.func66, Tryz.ntmps66
  go_wp2_with fail
  generalize w.alloc (.cells #[.int .i64 wd, .int .i64 ht, .string s] 43) = W0 at A0 B0 ⊢
  refine (yx cB _).mono ?_
  rintro e W1 ⟨⟨v1, rfl, ho⟩, hx⟩
  obtain ⟨a1, c1, rfl⟩ := own_slice ho
  have hfl : w.heap.size < W0.heap.size := A0.lt
  have HST0 : StS w W1 w.heap.size W1.heap.size wd ht s a1 S.length c1 S := ⟨A0.kept hx, own_lower ho (by omega), fun z e => (ho.lt z e).2, by have := hx.size; omega, by have := hx.size; omega, Nat.le_refl _, below_call B0 hx⟩
  have Z := below1 W1 (.cells #[.slice a1 S.length c1, .int .i64 code] 160)
  have HST1 := HST0.kept Z
  have X1 := blk_new W1 [.slice a1 S.length c1, .int .i64 code] 160
  clear ho hx Z A0 B0 cB HST0
  have x0 := X1.cell 0 _ rfl
  have x1 := X1.cell 1 _ rfl
  have e1 : (W1.alloc (.cells #[.slice a1 S.length c1, .int .i64 code] 160)).heap.size = W1.heap.size + 1 := by simp
  have Z := below1 (W1.alloc (.cells #[.slice a1 S.length c1, .int .i64 code] 160)) (.cells #[] 111)
  have HST2 : StS w _ w.heap.size (W1.heap.size + 1) wd ht s a1 S.length c1 S := (show StS w (W1.alloc (.cells #[.slice a1 S.length c1, .int .i64 code] 160)) w.heap.size (W1.heap.size + 1) wd ht s a1 S.length c1 S from ⟨HST1.fr, HST1.bl, fun z e => Nat.lt_succ_of_lt (HST1.lt z e), Nat.lt_succ_of_lt HST1.lf, Nat.le_succ_of_le HST1.lw, by omega, HST1.bel⟩).kept Z
  have HX := yz (X1.kept Z)
  have HO := yz (ownV_none (W1.alloc (.cells #[.slice a1 S.length c1, .int .i64 code] 160)) (W1.heap.size + 1) (by omega))
  have HST := yz HST2
  have hxb : W1.heap.size < W1.heap.size + 1 := Nat.lt_succ_self _
  rw [e1] at HO
  clear Z HST1 HST2 X1 e1
  go_wp2_with fail
  clear x0 x1
  generalize (W1.alloc (.cells #[.slice a1 S.length c1, .int .i64 code] 160)).alloc (.cells #[] 111) = W2 at HST HX HO ⊢
  generalize W1.heap.size + 1 = lo at *
  generalize W1.heap.size = xb at *
  refine (l02Is_any fo 1 40 _).mono ?_
  rintro e W3 ⟨rfl, rfl⟩
  have hfo : (decide (1 ≤ fo) && decide (fo ≤ 40)) = focB fo := isD _ _ _
  rw [hfo]
  clear hfo
  cases hf : focB fo
  · rw [hf] at HR
    have HR' : Hid (spotsR wd ht s lv fo = []) := HR
    go_wp2_with fail
    go_ret
    rw [yx HR']
    exact ⟨⟨_, rfl, own_lower (yx HO) (yx HST).lw⟩, (yx HST).bel⟩
  rw [hf, if_pos rfl] at HR
  clear hf
  go_wp2_with fail
  go_loopw [8, 9] (fun v kk wr => ∃ k : Nat, k ≤ S.length ∧ kk = .int .i64 k ∧ Hid (wr.ownsRow lo 111 3 v (pickS wd ht s fo (S.take k)).length (flatV (pickS wd ht s fo (S.take k)))) ∧ Hid (StS w wr w.heap.size lo wd ht s a1 S.length c1 S) ∧ Hid (Blk wr xb [.slice a1 S.length c1, .int .i64 code] 160)) (fun _ kk _ => S.length - (intOf kk).toNat)
  case atStart => exact ⟨0, by omega, rfl, HO, HST, HX⟩
  case round =>
    clear HO HST HX
    obtain ⟨k, hk, rfl, HO, HST, HX⟩ := hrel
    have x0 := (yx HX).cell 0 _ rfl
    have x1 := (yx HX).cell 1 _ rfl
    by_cases hkn : k < S.length
    · have hkn2 : (k : Int) < (S.length : Int) := by omega
      obtain ⟨b, hb⟩ : ∃ b, S[k]? = some b := ⟨S[k], List.getElem?_eq_getElem hkn⟩
      have HSN := yz (pick_snoc wd ht s fo S k b hb)
      have hpl : (pickS wd ht s fo (S.take k)).length ≤ 8 := by have := pick_len wd ht s fo (S.take k); have := List.length_take_le k S; omega
      obtain ⟨g, ha, hg1, hg2, c0, c1', c2, c3, c4⟩ := blob_cells (yx HST).bl rfl k b hb
      subst ha
      clear hb
      have HSV := yz (spT_v wd ht s fo b)
      have HKE : Hid (keepS wd ht s fo b = (goodB b.ar b.ed 1 20 && wideB (spT wd ht s fo b).1 (spT wd ht s fo b).2.1 (spT wd ht s fo b).2.2)) := yz rfl
      generalize spT wd ht s fo b = q at *
      generalize keepS wd ht s fo b = kp at *
      obtain ⟨q1, q2, q3⟩ := q
      obtain ⟨ar, su, sx, sy, ed⟩ := b
      have HSV' : Hid (spV su sx sy wd ht s fo = .agg #[.int .i64 q1, .int .i64 q2, .int .i64 q3]) := HSV
      have HKE' : Hid (kp = (goodB ar ed 1 20 && wideB q1 q2 q3)) := HKE
      clear HSV HKE
      simp only at c0 c1' c2 c3 c4
      have Z := below1 wr (.cells #[.int .i64 ar, .int .i64 su, .int .i64 sx, .int .i64 sy, .bool ed] 163)
      have HST2 := yz ((yx HST).kept Z)
      have HO2 := yz (own_kept (yx HO) Z)
      have HX2 := yz ((yx HX).kept Z)
      have D2 := blk_new wr [.int .i64 ar, .int .i64 su, .int .i64 sx, .int .i64 sy, .bool ed] 163
      clear Z HST HO HX
      obtain ⟨d0, d1, d2, d3, d4⟩ := bcs5 (D2)
      go_wp2_with fail
      clear c0 c1' c2 c3 c4 x0 x1
      refine (specBlobGood_any ar su sx sy ed 1 20 _).mono ?_
      rintro e W3 ⟨rfl, hx⟩
      have HST3 := yz ((yx HST2).kept hx)
      have HO3 := yz (own_kept (yx HO2) hx)
      have HX3 := yz ((yx HX2).kept hx)
      have D3 := D2.kept hx
      clear hx HST2 HO2 D2 d0 d1 d2 d3 d4 HX2
      cases hgd : goodB ar ed 1 20
      · rw [hgd] at HKE'
        have HKE : Hid (kp = false) := HKE'
        rw [yx HKE, if_neg (by simp), List.append_nil] at HSN
        have HO4 : Hid (W3.ownsRow lo 111 3 u8 (pickS wd ht s fo (S.take (k + 1))).length (flatV (pickS wd ht s fo (S.take (k + 1))))) := yz (by rw [yx HSN]; exact yx HO3)
        go_wp2_with fail
        go_roundw
        case rel => exact ⟨k + 1, by omega, by go_num, HO4, HST3, HX3⟩
        case measure => simp [intOf] <;> omega
      rw [hgd, Bool.true_and] at HKE'
      obtain ⟨d0, d1, d2, d3, d4⟩ := bcs5 (D3)
      have f0 := (yx HST3).fr.cell 0 _ rfl
      have f1 := (yx HST3).fr.cell 1 _ rfl
      have f2 := (yx HST3).fr.cell 2 _ rfl
      go_wp2_with fail
      refine (specSpotOf_any ar su sx sy ed wd ht s fo _).mono ?_
      rintro e W4 ⟨rfl, hx⟩
      rw [yx HSV']
      clear HSV'
      have Z := below1 W4 (.cells #[.int .i64 q1, .int .i64 q2, .int .i64 q3] 111)
      have HST5 := yz (((yx HST3).kept hx).kept Z)
      have HO5 := yz (own_kept (own_kept (yx HO3) hx) Z)
      have HX5 := yz (((yx HX3).kept hx).kept Z)
      have E5 := blk_new W4 [.int .i64 q1, .int .i64 q2, .int .i64 q3] 111
      clear hx Z HST3 HO3 D3 d0 d1 d2 d3 d4 f0 f1 f2 HX3
      obtain ⟨e0, e1, e2⟩ := bcs3 (E5)
      go_wp2_with fail
      generalize W4.alloc (.cells #[.int .i64 q1, .int .i64 q2, .int .i64 q3] 111) = W5 at HST5 HO5 E5 e0 e1 e2 HX5 ⊢
      generalize W4.heap.size = vb at *
      clear e0 e1 e2
      refine (l04Wide_any q1 q2 q3 _).mono ?_
      rintro e W6 ⟨rfl, hx⟩
      have HST6 := yz ((yx HST5).kept hx)
      have HO6 := yz (own_kept (yx HO5) hx)
      have HX6 := yz ((yx HX5).kept hx)
      have E6 := E5.kept hx
      clear hx HST5 HO5 E5 HX5
      cases hwd : wideB q1 q2 q3
      · rw [hwd] at HKE'
        rw [yx HKE', if_neg (by simp), List.append_nil] at HSN
        have HO7 : Hid (W6.ownsRow lo 111 3 u8 (pickS wd ht s fo (S.take (k + 1))).length (flatV (pickS wd ht s fo (S.take (k + 1))))) := yz (by rw [yx HSN]; exact yx HO6)
        go_wp2_with fail
        go_roundw
        case rel => exact ⟨k + 1, by omega, by go_num, HO7, HST6, HX6⟩
        case measure => simp [intOf] <;> omega
      · rw [hwd] at HKE'
        rw [yx HKE', if_pos rfl] at HSN
        obtain ⟨e0, e1, e2⟩ := bcs3 (E6)
        have Z1 := below1 W6 (.cells #[.int .i64 q1, .int .i64 q2, .int .i64 q3] 111)
        have hown := own_kept (yx HO6) Z1
        have ST7 := (yx HST6).kept Z1
        have hll := (yx HST6).ll
        have X7 := (yx HX6).kept Z1
        clear Z1 HO6 HST6 HX6
        generalize pickS wd ht s fo (S.take k) = Pk at *
        go_wp2_with (at_builtin; refine wpList_append_own _ rfl _ _ 42 rfl lo 111 i0 (.agg #[.int .i64 0, .int .i64 0, .int .i64 0]) 3 24 Tryz.underlying42 hinf hz0 hz1 hz2 rfl (by decide) _ _ _ rfl hown ⟨W6.heap.size, 0, none⟩ 1 1 (flatV [(q1, q2, q3)]) rfl rfl ?d2 (fun u hu => flatV_cell hu) ?d3 ?d4 ?d5 ?_)
        case d2 => first | exact fun j u h => h | exact new_list _ _ _
        case d3 => omega
        case d4 => omega
        case d5 => first | omega | (simp; omega)
        intro v7 V7 hown7 hgrow7 _
        have HST8 := yz (ST7.byRow hgrow7 (fun q e => (hown.lt q e).1))
        have HX8 := yz (X7.grown hgrow7 (fun e => by have := (hown.lt _ e.symm).1; omega))
        have HO8 : Hid (V7.ownsRow lo 111 3 v7 (pickS wd ht s fo (S.take (k + 1))).length (flatV (pickS wd ht s fo (S.take (k + 1))))) := yz (by rw [yx HSN, flatV_app, List.length_append]; exact hown7)
        clear hown7 hgrow7 hown ST7 e0 e1 e2 E6
        go_wp2_with fail
        go_roundw
        case rel => exact ⟨k + 1, by omega, by go_num, HO8, HST8, HX8⟩
        case measure => simp [intOf] <;> omega
    · have hke : k = S.length := by omega
      have HO3 : Hid (wr.ownsRow lo 111 3 u8 (spotsR wd ht s lv fo).length (flatV (spotsR wd ht s lv fo))) := yz (by
        have h := yx HO
        rw [hke, List.take_length] at h
        rw [yx HR]
        exact h)
      go_wp2_with fail
      go_ret
      exact ⟨⟨_, rfl, own_lower (yx HO3) (yx HST).lw⟩, (yx HST).bel⟩
def holdsB (wd ht x y : Int) : Bool := decide (0 ≤ x ∧ x < wd ∧ 0 ≤ y ∧ y < ht)
set_option maxRecDepth 100000 in
theorem holds_any (wd ht : Int) (s : ByteArray) (x y : Int) (w : World) :
    Calls Tryz.prog 208 #[.agg #[.int .i64 wd, .int .i64 ht, .string s], .agg #[.int .i64 x, .int .i64 y]] w fun e w' => e = .returned (.bool (holdsB wd ht x y)) ∧ Below w.heap.size w w' := by
  by_cases h1 : 0 ≤ x
  case neg =>
    have HV : Hid (holdsB wd ht x y = false) := yz (decide_eq_false (by omega))
    go_enter Tryz.func208, Tryz.ntmps208
    go_wp2_with fail
    go_ret
    exact ⟨by rw [yx HV]; rfl, below2 _ _ _⟩
  by_cases h2 : x < wd
  case neg =>
    have HV : Hid (holdsB wd ht x y = false) := yz (decide_eq_false (by omega))
    go_enter Tryz.func208, Tryz.ntmps208
    go_wp2_with fail
    go_ret
    exact ⟨by rw [yx HV]; rfl, below2 _ _ _⟩
  by_cases h3 : 0 ≤ y
  case neg =>
    have HV : Hid (holdsB wd ht x y = false) := yz (decide_eq_false (by omega))
    go_enter Tryz.func208, Tryz.ntmps208
    go_wp2_with fail
    go_ret
    exact ⟨by rw [yx HV]; rfl, below2 _ _ _⟩
  have HV : Hid (holdsB wd ht x y = decide (y < ht)) := yz (by unfold holdsB; simp [h1, h2, h3])
  go_enter Tryz.func208, Tryz.ntmps208
  go_wp2_with fail
  go_ret
  exact ⟨by rw [yx HV]; rfl, below2 _ _ _⟩
set_option maxRecDepth 100000 in
theorem light_any (wd ht : Nat) (s : ByteArray) (x y : Nat) (w : World) (hw : wd ≤ 16) (hh : ht ≤ 12) (hs : s.size = wd * ht) (hx : x < wd) (hy : y < ht) :
    Calls Tryz.prog 209 #[.agg #[.int .i64 wd, .int .i64 ht, .string s], .agg #[.int .i64 x, .int .i64 y]] w fun e w' => e = .returned (.int .i64 (byteN s (y * wd + x) : Nat)) ∧ Below w.heap.size w w' := by
  have hi : y * wd + x < s.size := by
    rw [hs]
    have := Nat.mul_le_mul_left wd (show y + 1 ≤ ht by omega)
    rw [Nat.mul_add, Nat.mul_one, Nat.mul_comm wd y] at this
    omega
  obtain ⟨i, hie⟩ : ∃ i, i = y * wd + x := ⟨_, rfl⟩
  obtain ⟨m, hme⟩ : ∃ m, m = y * wd := ⟨_, rfl⟩
  have hm : (y : Int) * (wd : Int) = (m : Int) := by rw [hme]; exact (Int.natCast_mul _ _).symm
  have hmi : (m : Int) + (x : Int) = (i : Int) := by omega
  have hmb : m ≤ 192 := by rw [hme]; have := Nat.mul_le_mul (show y ≤ 12 by omega) hw; omega
  rw [← hie] at hi ⊢
  have hi2 : (i : Int) < (s.size : Int) := by omega
  have hi0 : (0 : Int) ≤ (i : Int) := by omega
  have HB := yz (byteN_lt hi)
  have hwn : wrap64 (s[i].toNat : Int) = ((byteN s i : Nat) : Int) := by rw [byteN_lt hi]; exact wrap_id (by omega) (by have := s[i].toNat_lt; omega)
  have HWN := yz hwn
  clear hie hme hs hwn
  go_enter Tryz.func209, Tryz.ntmps209
  go_wp2_with fail
  go_ret
  exact ⟨by rw [← yx HWN]; rfl, below2 _ _ _⟩
def edgeI (wd ht x y : Int) : Bool := decide (x = 0) || decide (x = wd - 1) || decide (y = 0) || decide (y = ht - 1)
set_option maxRecDepth 100000 in
theorem atEdge_any (wd ht : Int) (s : ByteArray) (x y : Int) (w : World) (h1 : 1 ≤ wd) (h2 : wd ≤ 16) (h3 : 1 ≤ ht) (h4 : ht ≤ 12) :
    Calls Tryz.prog 220 #[.agg #[.int .i64 wd, .int .i64 ht, .string s], .agg #[.int .i64 x, .int .i64 y]] w fun e w' => e = .returned (.bool (edgeI wd ht x y)) ∧ Below w.heap.size w w' := by
  by_cases k1 : x = 0
  · have kb : (x == 0) = true := by simp [k1]
    have HV : Hid (edgeI wd ht x y = true) := yz (by unfold edgeI; simp [k1])
    clear k1
    go_enter Tryz.func220, Tryz.ntmps220
    go_wp2_with fail
    go_ret
    exact ⟨by rw [yx HV]; rfl, below2 _ _ _⟩
  have kb1 : (x == 0) = false := by simp [k1]
  by_cases k2 : x = wd - 1
  · have kb : (x == wd - 1) = true := by simp [k2]
    have HV : Hid (edgeI wd ht x y = true) := yz (by unfold edgeI; simp [k2])
    clear k2
    go_enter Tryz.func220, Tryz.ntmps220
    go_wp2_with fail
    go_ret
    exact ⟨by rw [yx HV]; rfl, below2 _ _ _⟩
  have kb2 : (x == wd - 1) = false := by simp [k2]
  by_cases k3 : y = 0
  · have kb : (y == 0) = true := by simp [k3]
    have HV : Hid (edgeI wd ht x y = true) := yz (by unfold edgeI; simp [k3])
    clear k3
    go_enter Tryz.func220, Tryz.ntmps220
    go_wp2_with fail
    go_ret
    exact ⟨by rw [yx HV]; rfl, below2 _ _ _⟩
  have kb3 : (y == 0) = false := by simp [k3]
  have HV : Hid (edgeI wd ht x y = decide (y = ht - 1)) := yz (by unfold edgeI; simp [k1, k2, k3])
  go_enter Tryz.func220, Tryz.ntmps220
  go_wp2_with fail
  go_ret
  exact ⟨by rw [yx HV]; rfl, below2 _ _ _⟩
set_option maxRecDepth 100000 in
theorem beside_any (x y : Nat) (w : World) (hx : x ≤ 16) (hy : y ≤ 12) :
    Calls Tryz.prog 221 #[.agg #[.int .i64 x, .int .i64 y]] w fun e w' => e = .returned (.agg #[.int .i64 ((x : Int) - 1), .int .i64 y, .int .i64 ((x : Int) + 1), .int .i64 y, .int .i64 x, .int .i64 ((y : Int) - 1), .int .i64 x, .int .i64 ((y : Int) + 1)]) ∧ Below w.heap.size w w' := by
  go_enter Tryz.func221, Tryz.ntmps221
  go_wp2_with fail
  exact bodyPost_ret (v := .agg #[.int .i64 ((x : Int) - 1), .int .i64 y, .int .i64 ((x : Int) + 1), .int .i64 y, .int .i64 x, .int .i64 ((y : Int) - 1), .int .i64 x, .int .i64 ((y : Int) + 1)]) (by simp [results, Tryz.results221, go_sem]) rfl ⟨rfl, below2 _ _ _⟩
def TakenAt (w : World) (tb wd ht : Nat) (T : Nat → Bool) : Prop := ∃ g : Nat → Bool, RowV w 282 tb 192 (fun j => .bool (g j)) ∧ ∀ x y, x < wd → y < ht → g (y * 16 + x) = T (y * wd + x)
theorem TakenAt.kept {w w' : World} {tb wd ht : Nat} {T : Nat → Bool} (h : TakenAt w tb wd ht T) (hB : Below w.heap.size w w') : TakenAt w' tb wd ht T := by
  obtain ⟨g, hr, hg⟩ := h
  exact ⟨g, hr.kept hB, hg⟩
theorem TakenAt.drewn {w : World} {tb wd ht : Nat} {T : Nat → Bool} (h : TakenAt w tb wd ht T) : TakenAt w.drew tb wd ht T := by
  obtain ⟨g, hr, hg⟩ := h
  exact ⟨g, hr.drewn, hg⟩
theorem TakenAt.lt {w : World} {tb wd ht : Nat} {T : Nat → Bool} (h : TakenAt w tb wd ht T) : tb < w.heap.size := by
  obtain ⟨g, hr, hg⟩ := h
  exact hr.lt
theorem idx_inj {wd x y x' y' : Nat} (hx : x < wd) (hx' : x' < wd) (h : y * wd + x = y' * wd + x') : x = x' ∧ y = y' := by
  have e1 : (y * wd + x) % wd = x := by rw [Nat.mul_comm, Nat.mul_add_mod]; exact Nat.mod_eq_of_lt hx
  have e2 : (y' * wd + x') % wd = x' := by rw [Nat.mul_comm, Nat.mul_add_mod]; exact Nat.mod_eq_of_lt hx'
  have hxx : x = x' := by rw [← e1, h, e2]
  refine ⟨hxx, ?_⟩
  have : y * wd = y' * wd := by omega
  exact Nat.eq_of_mul_eq_mul_right (by omega) this
theorem TakenAt.set {w : World} {tb wd ht : Nat} {T : Nat → Bool} (h : TakenAt w tb wd ht T) (hw : wd ≤ 16) {x y : Nat} (hx : x < wd) (hy : y < ht) : TakenAt (w.setCell ⟨tb, y * 16 + x, none⟩ (.bool true)) tb wd ht (mark T (y * wd + x)) := by
  obtain ⟨g, hr, hg⟩ := h
  refine ⟨fun j => if j = y * 16 + x then true else g j, (hr.set (y * 16 + x) (.bool true)).congr (fun j _ => by by_cases e : j = y * 16 + x <;> simp [e]), fun x' y' hx' hy' => ?_⟩
  unfold mark
  by_cases e : y' * 16 + x' = y * 16 + x
  · obtain ⟨e1, e2⟩ := idx_inj (wd := 16) (by omega) (by omega) e
    subst e1 e2
    simp
  · have e' : ¬ y' * wd + x' = y * wd + x := fun h => by
      obtain ⟨e1, e2⟩ := idx_inj hx' hx h
      subst e1 e2
      exact e rfl
    simp only [if_neg e, if_neg e']
    exact hg x' y' hx' hy'
def FrAt (w : World) (fb : Nat) (wd ht : Int) (s : ByteArray) : Prop := Blk w fb [.int .i64 wd, .int .i64 ht, .string s] 43
set_option maxHeartbeats 1000000 in
set_option maxRecDepth 100000 in
theorem take_any (x y tb wd ht : Nat) (T : Nat → Bool) (w : World) (hw : wd ≤ 16) (hh : ht ≤ 12) (hx : x < wd) (hy : y < ht) (hT : TakenAt w tb wd ht T) :
    Calls Tryz.prog 210 #[.agg #[.int .i64 x, .int .i64 y], .pointer (some ⟨tb, 0, none⟩)] w fun e w' => e = .returned (.tuple #[]) ∧ TakenAt w' tb wd ht (mark T (y * wd + x)) ∧ w.grownBy w' (some tb) := by
  have A0 := blk_new w [.int .i64 x, .int .i64 y] 284
  have B0 := below1 w (.cells #[.int .i64 x, .int .i64 y] 284)
  have T0 := hT.kept B0
  have lt := hT.lt
  have hx1 : (x : Int) < 16 := by omega
  have hy1 : (y : Int) < 12 := by omega
  go_enter Tryz.func210, Tryz.ntmps210
  go_wp2_with fail
  generalize w.alloc (.cells #[.int .i64 (x : Int), .int .i64 (y : Int)] 284) = W0 at A0 B0 T0 ⊢
  have c0 := A0.cell 0 _ rfl
  have c1 := A0.cell 1 _ rfl
  obtain ⟨g, hr, hg⟩ := T0
  have d0 := hr.cell (j := y * 16 + x) (by omega)
  have df := hr.free (y * 16 + x)
  have HT2 := yz (TakenAt.set (T := T) ⟨g, hr, hg⟩ hw hx hy)
  have HG2 : Hid (w.grownBy (W0.setCell ⟨tb, y * 16 + x, none⟩ (.bool true)) (some tb)) := yz (gSet (⟨B0.os, B0.tape, B0.output, B0.size, fun k hk _ => B0.block k hk⟩ : w.grownBy W0 (some tb)) _ _)
  clear hr hg B0 A0
  go_region
  go_wp2_with fail
  go_end0
  exact ⟨rfl, TakenAt.drewn (yx HT2), ⟨(yx HG2).os, (yx HG2).tape, (yx HG2).output, (yx HG2).size, (yx HG2).block⟩⟩
def litI (wd ht : Nat) (s : ByteArray) (lv : Int) (T : Nat → Bool) (x y : Int) : Bool := holdsB wd ht x y && litP (frOf wd ht s lv) T (y.toNat * wd + x.toNat)
set_option maxHeartbeats 2000000 in
set_option maxRecDepth 100000 in
theorem lit_any (x y : Int) (fb lb tb wd ht : Nat) (s : ByteArray) (lv : Int) (T : Nat → Bool) (w : World) (hw : wd ≤ 16) (hh : ht ≤ 12) (hs : s.size = wd * ht) (hF : FrAt w fb wd ht s) (hL : Blk w lb [.int .i64 lv] 2) (hT : TakenAt w tb wd ht T) :
    Calls Tryz.prog 207 #[.agg #[.int .i64 x, .int .i64 y], .pointer (some ⟨fb, 0, none⟩), .pointer (some ⟨lb, 0, none⟩), .pointer (some ⟨tb, 0, none⟩)] w fun e w' => e = .returned (.bool (litI wd ht s lv T x y)) ∧ Below w.heap.size w w' := by
  have A0 := blk_new w [.int .i64 x, .int .i64 y] 284
  have B0 := below1 w (.cells #[.int .i64 x, .int .i64 y] 284)
  have F0 := Blk.kept hF B0
  have L0 := Blk.kept hL B0
  have T0 := hT.kept B0
  go_enter Tryz.func207, Tryz.ntmps207
  go_wp2_with fail
  generalize w.alloc (.cells #[.int .i64 x, .int .i64 y] 284) = W0 at A0 B0 F0 L0 T0 ⊢
  clear hF hL hT
  have c0 := cell_regrown (A0.cell 0 _ rfl)
  have c1 := cell_regrown (A0.cell 1 _ rfl)
  have f0 := cell_regrown (F0.cell 0 _ rfl)
  have f1 := cell_regrown (F0.cell 1 _ rfl)
  have f2 := cell_regrown (F0.cell 2 _ rfl)
  have l0 := cell_regrown (L0.cell 0 _ rfl)
  have cH := yz (fun W => holds_any wd ht s x y W)
  cases hb : holdsB wd ht x y
  · rw [hb] at cH
    have HV : Hid (litI wd ht s lv T x y = false) := yz (by unfold litI; rw [hb]; rfl)
    clear hb
    refine wp_region_quiet_below (by kernel_rfl) (by kernel_rfl) ?_
    repeat (go_big_quiet_step (first | (with_reducible exact Calls.regrown_of (yx cH _))))
    refine wpQuiet_nil ?_
    intro _ hw'
    obtain ⟨⟨dq, osq⟩, hw''⟩ := hw'
    subst hw''
    have hx := below_call B0 (below_regrown W0 dq osq)
    go_wp2_with fail
    go_ret
    exact ⟨by rw [yx HV]; rfl, hx⟩
  · rw [hb] at cH
    obtain ⟨h1, h2, h3, h4⟩ := of_decide_eq_true hb
    obtain ⟨xn, hxn⟩ := Int.eq_ofNat_of_zero_le h1
    obtain ⟨yn, hyn⟩ := Int.eq_ofNat_of_zero_le h3
    subst hxn hyn
    have HV : Hid (litI wd ht s lv T xn yn = litP (frOf wd ht s lv) T (yn * wd + xn)) := yz (by unfold litI; rw [hb]; rfl)
    clear hb
    have cL := yz (fun W => light_any wd ht s xn yn W hw hh hs (by omega) (by omega))
    obtain ⟨g, hr, hg⟩ := T0
    have d0 := hr.cell (j := yn * 16 + xn) (by omega)
    have hgt := hg xn yn (by omega) (by omega)
    have q0 := cell_regrown d0
    have HLP : Hid (litP (frOf wd ht s lv) T (yn * wd + xn) = (decide (lv < ((byteN s (yn * wd + xn) : Nat) : Int)) && !g (yn * 16 + xn))) := yz (by rw [hgt]; rfl)
    clear hr hg hgt d0
    generalize litP (frOf wd ht s lv) T (yn * wd + xn) = lit at *
    generalize g (yn * 16 + xn) = t at *
    generalize byteN s (yn * wd + xn) = bn at *
    have hx1 : (xn : Int) < 16 := by omega
    have hy1 : (yn : Int) < 12 := by omega
    by_cases hlt : lv < (bn : Int)
    · have hd : decide (lv < (bn : Int)) = true := decide_eq_true hlt
      have HV2 : Hid (litI wd ht s lv T xn yn = !t) := yz (by rw [yx HV, yx HLP, hd, Bool.true_and])
      refine wp_region_quiet_below (by kernel_rfl) (by kernel_rfl) ?_
      repeat (go_big_quiet_step (first | (with_reducible exact Calls.regrown_of (yx cH _)) | (with_reducible exact Calls.regrown_of (yx cL _))))
      refine wpQuiet_nil ?_
      intro _ hw'
      obtain ⟨⟨dq, osq⟩, hw''⟩ := hw'
      subst hw''
      have hx := below_call B0 (below_regrown W0 dq osq)
      go_wp2_with fail
      go_ret
      exact ⟨by rw [yx HV2]; rfl, hx⟩
    · have hd : decide (lv < (bn : Int)) = false := decide_eq_false hlt
      have HV2 : Hid (litI wd ht s lv T xn yn = false) := yz (by rw [yx HV, yx HLP, hd, Bool.false_and])
      refine wp_region_quiet_below (by kernel_rfl) (by kernel_rfl) ?_
      repeat (go_big_quiet_step (first | (with_reducible exact Calls.regrown_of (yx cH _)) | (with_reducible exact Calls.regrown_of (yx cL _))))
      refine wpQuiet_nil ?_
      intro _ hw'
      obtain ⟨⟨dq, osq⟩, hw''⟩ := hw'
      subst hw''
      have hx := below_call B0 (below_regrown W0 dq osq)
      go_wp2_with fail
      go_ret
      exact ⟨by rw [yx HV2]; rfl, hx⟩
end Go.Proofs.YteoonaanoenjiaaGreatDoor
