/- Several texts in one: NaD, NaE. -/
import Derived.Test.YtphfllkkpblbaaaDoorQTurnForOwn10
import Derived.Test.YtphfllkkpblbaaaDoorQTurnForOwn11
import Derived.Test.YtphfllkkpblbaaaDoorQTurnForOwn3
namespace Go.Proofs.YtphfllkkpblbaaaDoor
open Go.RowKit Go.Sort
set_option linter.unusedVariables false

theorem ordI_sgn (x : Int) : sgn x = ordI x 0 := rfl
theorem det_right {p q r : D3} (hp : rightB p.1 p.2.1 p.2.2 = true) (hq : rightB q.1 q.2.1 q.2.2 = true) (hr : rightB r.1 r.2.1 r.2.2 = true) :
    detD p q r = dotW (crW p.2.1 p.2.2 q.2.1 q.2.2) (crW p.2.2 p.1 q.2.2 q.1) (crW p.1 p.2.1 q.1 q.2.1) r.1 r.2.1 r.2.2 := by
  unfold detD detI
  rw [hp, hq, hr]
  rfl
/-- the three calls that tell a side -/
theorem det_calls (p q r : D3) (hp : rightB p.1 p.2.1 p.2.2 = true) (hq : rightB q.1 q.2.1 q.2.2 = true) (hr : rightB r.1 r.2.1 r.2.2 = true) : ∃ (x1 x2 x3 d : Int),
    Hid (∀ W : World, Calls Tryd.prog 54 #[.agg #[.int .i64 p.1, .int .i64 p.2.1, .int .i64 p.2.2], .agg #[.int .i64 q.1, .int .i64 q.2.1, .int .i64 q.2.2]] W fun e w' => e = .returned (.agg #[.int .i64 x1, .int .i64 x2, .int .i64 x3]) ∧ Below W.heap.size W w')
    ∧ Hid (∀ W : World, Calls Tryd.prog 55 #[.agg #[.int .i64 x1, .int .i64 x2, .int .i64 x3], .agg #[.int .i64 r.1, .int .i64 r.2.1, .int .i64 r.2.2]] W fun e w' => e = .returned (.int .i64 d) ∧ Below W.heap.size W w')
    ∧ Hid (∀ W : World, Calls Tryd.prog 57 #[.int .i64 d] W fun e w' => e = .returned (.int .i64 (ordI (detD p q r) 0)) ∧ Below W.heap.size W w') := by
  refine ⟨_, _, _, _, hide (fun W => l02Cross_any _ _ _ _ _ _ W), hide (fun W => l02Dot_any _ _ _ _ _ _ W), hide (fun W => (l02Sign_any _ W).mono fun e w' h => ?_)⟩
  obtain ⟨he, hw⟩ := h
  refine ⟨?_, by rw [hw]; exact Below.refl _ _⟩
  rw [he, det_right hp hq hr]
  rfl
theorem cos_call (p q r s : D3) (hp : wideD p = true) (hq : wideD q = true) (hr : smallB r.1 r.2.1 r.2.2 = true) (hs : smallB s.1 s.2.1 s.2.2 = true) (W : World) :
    Calls Tryd.prog 56 #[.agg #[.int .i64 p.1, .int .i64 p.2.1, .int .i64 p.2.2], .agg #[.int .i64 q.1, .int .i64 q.2.1, .int .i64 q.2.2], .agg #[.int .i64 r.1, .int .i64 r.2.1, .int .i64 r.2.2], .agg #[.int .i64 s.1, .int .i64 s.2.1, .int .i64 s.2.2]] W fun e w' => e = .returned (.int .i64 (cosI p.1 p.2.1 p.2.2 q.1 q.2.1 q.2.2 r.1 r.2.1 r.2.2 s.1 s.2.1 s.2.2)) ∧ Below W.heap.size W w' := by
  rw [cos_eq2 hp hq hr hs]
  exact l02Cos_any _ _ _ _ _ _ _ _ _ _ _ _ W
def stepI (L : List St) (S : List D3) (ids : List Int) (s : Sg) (i : Nat) : Bool := decide (ids.getD i 0 = 0) || (decide (s.2.1 ≠ ids.getD i 0) && farB s (sgOf L S ids i) && (List.range i).all (fun j => decide (ids.getD j 0 = 0) || sideB s (sgOf L S ids j) (sgOf L S ids i)))
theorem fitsI_yes {L : List St} {S : List D3} {ids : List Int} {s : Sg} {n : Nat} (h : ∀ i, i < n → stepI L S ids s i = true) : fitsI L S ids s n = true := by
  unfold fitsI
  rw [List.all_eq_true]
  exact fun i hi => h i (List.mem_range.1 hi)
theorem fitsI_no {L : List St} {S : List D3} {ids : List Int} {s : Sg} {n i : Nat} (hi : i < n) (h : stepI L S ids s i = false) : fitsI L S ids s n = false := by
  unfold fitsI
  rw [List.all_eq_false]
  exact ⟨i, List.mem_range.2 hi, by unfold stepI at h; rw [h]; simp⟩
theorem stepI_zero {L : List St} {S : List D3} {ids : List Int} {s : Sg} {i : Nat} (h : ids.getD i 0 = 0) : stepI L S ids s i = true := by unfold stepI; rw [decide_eq_true h, Bool.true_or]
theorem stepI_same {L : List St} {S : List D3} {ids : List Int} {s : Sg} {i : Nat} (h : ids.getD i 0 ≠ 0) (h1 : s.2.1 = ids.getD i 0) : stepI L S ids s i = false := by
  unfold stepI
  rw [decide_eq_false h, Bool.false_or, show decide (s.2.1 ≠ ids.getD i 0) = false from decide_eq_false (fun g => g h1)]
  rfl
theorem stepI_far {L : List St} {S : List D3} {ids : List Int} {s : Sg} {i : Nat} (h : ids.getD i 0 ≠ 0) (h1 : farB s (sgOf L S ids i) = false) : stepI L S ids s i = false := by
  unfold stepI
  rw [decide_eq_false h, Bool.false_or, h1, Bool.and_false]
  rfl
theorem stepI_side {L : List St} {S : List D3} {ids : List Int} {s : Sg} {i j : Nat} (h : ids.getD i 0 ≠ 0) (hj : j < i) (h0 : ids.getD j 0 ≠ 0) (h1 : sideB s (sgOf L S ids j) (sgOf L S ids i) = false) : stepI L S ids s i = false := by
  unfold stepI
  have : ((List.range i).all fun j => decide (ids.getD j 0 = 0) || sideB s (sgOf L S ids j) (sgOf L S ids i)) = false := by
    rw [List.all_eq_false]
    exact ⟨j, List.mem_range.2 hj, by rw [decide_eq_false h0, h1]; simp⟩
  rw [decide_eq_false h, Bool.false_or, this, Bool.and_false]
theorem stepI_yes {L : List St} {S : List D3} {ids : List Int} {s : Sg} {i : Nat} (h1 : s.2.1 ≠ ids.getD i 0) (h2 : farB s (sgOf L S ids i) = true) (h3 : ∀ j, j < i → (decide (ids.getD j 0 = 0) || sideB s (sgOf L S ids j) (sgOf L S ids i)) = true) : stepI L S ids s i = true := by
  unfold stepI
  rw [decide_eq_true h1, h2, show ((List.range i).all fun j => decide (ids.getD j 0 = 0) || sideB s (sgOf L S ids j) (sgOf L S ids i)) = true from List.all_eq_true.2 (fun j hj => h3 j (List.mem_range.1 hj))]
  simp
def sidesTo (L : List St) (S : List D3) (ids : List Int) (s : Sg) (i j : Nat) : Prop := ∀ l, l < j → (decide (ids.getD l 0 = 0) || sideB s (sgOf L S ids l) (sgOf L S ids i)) = true
theorem sides_step {L : List St} {S : List D3} {ids : List Int} {s : Sg} {i j : Nat} (h : sidesTo L S ids s i j) (h1 : (decide (ids.getD j 0 = 0) || sideB s (sgOf L S ids j) (sgOf L S ids i)) = true) : sidesTo L S ids s i (j + 1) := fun l hl => by
  by_cases e : l = j
  · rw [e]; exact h1
  · exact h l (by omega)
theorem sides_none (L : List St) (S : List D3) (ids : List Int) (s : Sg) (i : Nat) : sidesTo L S ids s i 0 := fun j hj => absurd hj (Nat.not_lt_zero _)
set_option maxHeartbeats 4000000 in
set_option maxRecDepth 100000 in
theorem l06Fits_any (L : List St) (S : List D3) (ids : List Int) (k : Nat) (id : Int) (ar br ir : Option Addr) (cr dr er : Nat) (w : World) (hk6 : k ≤ 6) (hn : L.length ≤ 12) (hS : Stars w ar L L.length) (hD : Dirs w br S (k + 1)) (hI : Nums w ir ids k)
    (hwd : ∀ i, i ≤ k → wideD (vA S i) = true) (hid : smallB (atV L L.length id).1 (atV L L.length id).2.1 (atV L L.length id).2.2 = true) (hids : ∀ i, i < k → ids.getD i 0 ≠ 0 → smallB (atV L L.length (ids.getD i 0)).1 (atV L L.length (ids.getD i 0)).2.1 (atV L L.length (ids.getD i 0)).2.2 = true) :
    Calls Tryd.prog 40 #[.slice ar L.length cr, .slice br (k + 1) dr, .slice ir k er, .int .i64 id] w fun e w' => e = .returned (.bool (fitsI L S ids (vA S k, (id, atV L L.length id)) k)) ∧ Below w.heap.size w w' := by
  have cA := hide (fun (W : World) (q : Int) hW => l04At_any L L.length q ar cr W (by omega) hW)
  have HS := hide hS
  have HD := hide hD
  have HWD := hide hwd
  have HDS := hide hids
  have HSO : Hid (∀ i, sgOf L S ids i = (vA S i, (ids.getD i 0, atV L L.length (ids.getD i 0)))) := hide (fun i => rfl)
  clear hS hD hwd hids
  obtain ⟨⟨p1, p2, p3⟩, hp⟩ : ∃ p, vA S k = p := ⟨_, rfl⟩
  obtain ⟨⟨q1, q2, q3⟩, hq⟩ : ∃ p, atV L L.length id = p := ⟨_, rfl⟩
  obtain ⟨sg, hsg⟩ : ∃ sg : Sg, sg = ((p1, p2, p3), (id, q1, q2, q3)) := ⟨_, rfl⟩
  have cV := hide (fun (W : World) hW => unhide cA W id hW)
  rw [hq] at hid cV
  have HWK : Hid (wideD (p1, p2, p3) = true) := hide (by rw [← hp]; exact unhide HWD k (Nat.le_refl _))
  have HIDS := hide hid
  rw [hp, hq, ← hsg]
  have HSG := hide hsg
  have HP := hide hp
  clear hp hq hsg hid
  generalize L.length = n at *
  go_enter Tryd.func40, Tryd.ntmps40
  go_wp2_with fail
  refine (unhide cV _ (unhide HS)).mono ?_
  rintro e W1 ⟨rfl, hx⟩
  unfold vecV
  simp only
  have Z := below1 W1 (.cells #[.int .i64 q1, .int .i64 q2, .int .i64 q3] 46)
  have HB1 := hide (below_call hx Z)
  have HV1 := hide (vecAt_new W1 q1 q2 q3 46)
  clear hx Z cV
  go_wp2_with fail
  generalize W1.alloc (.cells #[.int .i64 q1, .int .i64 q2, .int .i64 q3] 46) = W2 at HB1 HV1 ⊢
  generalize W1.heap.size = vb at *
  rcases hI with h0 | ⟨ib, io, rfl, hib, hic⟩
  · subst h0
    refine wp_loop_rounds 1 ?_
    rw [rounds_succ]
    go_wp2_with fail
    go_ret
    exact ⟨rfl, unhide HB1⟩
  have HIC := hide hic
  clear hic
  rcases unhide HD with h | ⟨bb, bo, rfl, hbb, hbc⟩
  · omega
  have HBC := hide hbc
  clear hbc
  go_loopw [11] (fun kk wr => ∃ i : Nat, i ≤ k ∧ kk = .int .i64 i ∧ Hid (∀ j, j < i → stepI L S ids sg j = true) ∧ Hid (VecAt wr vb q1 q2 q3) ∧ Hid (Below w.heap.size w wr)) (fun kk _ => k - (intOf kk).toNat)
  case atStart => exact ⟨0, by omega, rfl, hide (fun j hj => absurd hj (Nat.not_lt_zero _)), HV1, HB1⟩
  case round =>
    clear HV1 HB1
    obtain ⟨i, hi, rfl, HF, HV, HB⟩ := hrel
    by_cases hik : i < k
    · have hik2 : (i : Int) < (k : Int) := by omega
      have ci : wr.cell? ⟨ib, io + i, none⟩ = some (.int .i64 (ids.getD i 0)) := by rw [(unhide HB).cell (p := ⟨ib, io + i, none⟩) hib]; exact unhide HIC i hik
      have HSI := hide (unhide HSO i)
      obtain ⟨x, hxi⟩ : ∃ x, ids.getD i 0 = x := ⟨_, rfl⟩
      rw [hxi] at ci HSI
      have HX := hide hxi
      clear hxi
      by_cases hx0 : x = 0
      · subst hx0
        have HOK := hide (stepI_zero (L := L) (S := S) (s := sg) (unhide HX))
        go_wp2_with fail
        go_roundw
        case rel => exact ⟨i + 1, by omega, by go_num, hide (fun l hl => by
          by_cases e : l = i
          · rw [e]; exact unhide HOK
          · exact unhide HF l (by omega)), HV, HB⟩
        case measure => simp [intOf] <;> omega
      have hx0' : (x == 0) = false := by simp [hx0]
      have HXN : Hid (ids.getD i 0 ≠ 0) := hide (by rw [unhide HX]; exact hx0)
      by_cases hxd : x = id
      · subst hxd
        have HNO := hide (fitsI_no hik (stepI_same (L := L) (S := S) (s := sg) (unhide HXN) (by rw [unhide HX, unhide HSG])))
        go_wp2_with fail
        go_ret
        exact ⟨by rw [unhide HNO]; rfl, unhide HB⟩
      have hxd' : (x == id) = false := by simp [hxd]
      have HDX : Hid (sg.2.1 ≠ ids.getD i 0) := hide (by rw [unhide HX, unhide HSG]; exact fun e => hxd e.symm)
      have cW := hide (fun (W : World) hW => unhide cA W x hW)
      have hsmx := unhide HDS i hik (unhide HXN)
      rw [unhide HX] at hsmx
      obtain ⟨⟨w1, w2, w3⟩, hwv⟩ : ∃ p, atV L n x = p := ⟨_, rfl⟩
      rw [hwv] at cW hsmx HSI
      clear hwv
      obtain ⟨⟨s1, s2, s3⟩, hsv⟩ : ∃ p, vA S i = p := ⟨_, rfl⟩
      have HSVI := hide hsv
      rw [hsv] at HSI
      have hwi := unhide HWD i (by omega)
      rw [hsv] at hwi
      clear hsv
      go_wp2_with fail
      refine (unhide cW _ ((unhide HS).kept (unhide HB))).mono ?_
      rintro e W3 ⟨rfl, hx⟩
      unfold vecV
      simp only
      have Z := below1 W3 (.cells #[.int .i64 w1, .int .i64 w2, .int .i64 w3] 46)
      have HB3 := hide (below_call (below_call (unhide HB) hx) Z)
      have HV3 := hide (((unhide HV).kept (vltD (unhide HV)) hx).kept (Nat.lt_of_lt_of_le (vltD (unhide HV)) hx.size) Z)
      have HW3 := hide (vecAt_new W3 w1 w2 w3 46)
      clear hx Z cW ci HB HV
      go_wp2_with fail
      generalize W3.alloc (.cells #[.int .i64 w1, .int .i64 w2, .int .i64 w3] 46) = W4 at HB3 HV3 HW3 ⊢
      generalize W3.heap.size = wb at *
      have hsp := (unhide HBC i (by omega)).kept hbb (unhide HB3)
      have hpp := (unhide HBC k (by omega)).kept hbb (unhide HB3)
      rw [unhide HSVI] at hsp
      rw [unhide HP] at hpp
      have cC := hide (fun W => cos_call (s1, s2, s3) (p1, p2, p3) (w1, w2, w3) (q1, q2, q3) hwi (unhide HWK) hsmx (unhide HIDS) W)
      have HFA : Hid (farB sg (sgOf L S ids i) = decide (cosI s1 s2 s3 p1 p2 p3 w1 w2 w3 q1 q2 q3 = 0)) := hide (by rw [unhide HSI, unhide HSG]; rfl)
      generalize cosI s1 s2 s3 p1 p2 p3 w1 w2 w3 q1 q2 q3 = cv at *
      simp only at cC
      obtain ⟨c0, c1, c2⟩ := hsp
      obtain ⟨d0, d1, d2⟩ := hpp
      obtain ⟨e0, e1, e2⟩ := unhide HV3
      obtain ⟨f0, f1, f2⟩ := unhide HW3
      have rc0 := cell_regrown c0
      have rc1 := cell_regrown c1
      have rc2 := cell_regrown c2
      have rd0 := cell_regrown d0
      have rd1 := cell_regrown d1
      have rd2 := cell_regrown d2
      have re0 := cell_regrown e0
      have re1 := cell_regrown e1
      have re2 := cell_regrown e2
      have rf0 := cell_regrown f0
      have rf1 := cell_regrown f1
      have rf2 := cell_regrown f2
      clear c0 c1 c2 d0 d1 d2 e0 e1 e2 f0 f1 f2
      have hik3 : (i : Int) < (k : Int) + 1 := by omega
      have hkk3 : (k : Int) < (k : Int) + 1 := by omega
      refine wp_region_quiet_below (by kernel_rfl) (by kernel_rfl) ?_
      repeat (go_big_quiet_step (first | (with_reducible exact Calls.regrown_of (unhide cC _))))
      refine wpQuiet_nil ?_
      intro _ hw'
      obtain ⟨⟨dq, osq⟩, hw''⟩ := hw'
      subst hw''
      have hx := below_regrown W4 dq osq
      have HB5 := hide (below_call (unhide HB3) hx)
      have HV5 := hide ((unhide HV3).kept (vltD (unhide HV3)) hx)
      have HW5 := hide ((unhide HW3).kept (vltD (unhide HW3)) hx)
      generalize grow (redrawn W4 dq) osq = W5 at hx HB5 HV5 HW5 ⊢
      clear hx rc0 rc1 rc2 rd0 rd1 rd2 re0 re1 re2 rf0 rf1 rf2 cC HB3 HV3 HW3
      by_cases hcv : cv ≠ 0
      · have hcv' : (cv == 0) = false := by simp [hcv]
        have HNO := hide (fitsI_no hik (stepI_far (L := L) (S := S) (s := sg) (unhide HXN) (by rw [unhide HFA]; exact decide_eq_false hcv)))
        go_wp2_with fail
        go_ret
        exact ⟨by rw [unhide HNO]; rfl, unhide HB5⟩
      have hcv0 : cv = 0 := Decidable.not_not.1 hcv
      subst hcv0
      clear hcv
      have HFT : Hid (farB sg (sgOf L S ids i) = true) := hide (by rw [unhide HFA]; rfl)
      clear HFA
      go_wp2_with fail
      go_loopw [13] (fun kk wr => ∃ j : Nat, j ≤ i ∧ kk = .int .i64 j ∧ Hid (sidesTo L S ids sg i j) ∧ Hid (VecAt wr vb q1 q2 q3) ∧ Hid (VecAt wr wb w1 w2 w3) ∧ Hid (Below w.heap.size w wr)) (fun kk _ => i - (intOf kk).toNat)
      case atStart => exact ⟨0, by omega, rfl, hide (sides_none _ _ _ _ _), HV5, HW5, HB5⟩
      case round =>
        clear HV5 HW5 HB5
        obtain ⟨j, hj, rfl, HL, HV, HW, HB⟩ := hrel
        by_cases hji : j < i
        · have hji2 : (j : Int) < (i : Int) := by omega
          have hjk2 : (j : Int) < (k : Int) := by omega
          have ci : wr.cell? ⟨ib, io + j, none⟩ = some (.int .i64 (ids.getD j 0)) := by rw [(unhide HB).cell (p := ⟨ib, io + j, none⟩) hib]; exact unhide HIC j (by omega)
          have HSJ := hide (unhide HSO j)
          obtain ⟨y, hyi⟩ : ∃ x, ids.getD j 0 = x := ⟨_, rfl⟩
          rw [hyi] at ci HSJ
          have HY := hide hyi
          clear hyi
          by_cases hy0 : y = 0
          · subst hy0
            have HOK : Hid ((decide (ids.getD j 0 = 0) || sideB sg (sgOf L S ids j) (sgOf L S ids i)) = true) := hide (by rw [unhide HY]; rfl)
            go_wp2_with fail
            go_roundw
            case rel => exact ⟨j + 1, by omega, by go_num, hide (sides_step (unhide HL) (unhide HOK)), HV, HW, HB⟩
            case measure => simp [intOf] <;> omega
          have hy0' : (y == 0) = false := by simp [hy0]
          have HYN : Hid (ids.getD j 0 ≠ 0) := hide (by rw [unhide HY]; exact hy0)
          have cU := hide (fun (W : World) hW => unhide cA W y hW)
          have hsmy := unhide HDS j (by omega) (unhide HYN)
          rw [unhide HY] at hsmy
          obtain ⟨⟨u1, u2, u3⟩, huv⟩ : ∃ p, atV L n y = p := ⟨_, rfl⟩
          rw [huv] at cU hsmy HSJ
          clear huv
          obtain ⟨⟨t1, t2, t3⟩, htv⟩ : ∃ p, vA S j = p := ⟨_, rfl⟩
          have HTVJ := hide htv
          rw [htv] at HSJ
          have hwj := unhide HWD j (by omega)
          rw [htv] at hwj
          clear htv
          go_wp2_with fail
          refine (unhide cU _ ((unhide HS).kept (unhide HB))).mono ?_
          rintro e W6 ⟨rfl, hx⟩
          unfold vecV
          simp only
          have Z := below1 W6 (.cells #[.int .i64 u1, .int .i64 u2, .int .i64 u3] 46)
          have HB6 := hide (below_call (below_call (unhide HB) hx) Z)
          have HV6 := hide (((unhide HV).kept (vltD (unhide HV)) hx).kept (Nat.lt_of_lt_of_le (vltD (unhide HV)) hx.size) Z)
          have HW6 := hide (((unhide HW).kept (vltD (unhide HW)) hx).kept (Nat.lt_of_lt_of_le (vltD (unhide HW)) hx.size) Z)
          have HU6 := hide (vecAt_new W6 u1 u2 u3 46)
          clear hx Z cU ci HB HV HW
          go_wp2_with fail
          generalize W6.alloc (.cells #[.int .i64 u1, .int .i64 u2, .int .i64 u3] 46) = W7 at HB6 HV6 HW6 HU6 ⊢
          generalize W6.heap.size = ub at *
          have hsp := (unhide HBC i (by omega)).kept hbb (unhide HB6)
          have htp := (unhide HBC j (by omega)).kept hbb (unhide HB6)
          have hpp := (unhide HBC k (by omega)).kept hbb (unhide HB6)
          rw [unhide HSVI] at hsp
          rw [unhide HTVJ] at htp
          rw [unhide HP] at hpp
          obtain ⟨x1, x2, x3, dd, cX, cY, cZ⟩ := det_calls (t1, t2, t3) (s1, s2, s3) (p1, p2, p3) (wide_iff hwj).1 (wide_iff hwi).1 (wide_iff (unhide HWK)).1
          obtain ⟨y1, y2, y3, d2, cX2, cY2, cZ2⟩ := det_calls (u1, u2, u3) (w1, w2, w3) (q1, q2, q3) (small_iff hsmy).1 (small_iff hsmx).1 (small_iff (unhide HIDS)).1
          have HSB : Hid (sideB sg (sgOf L S ids j) (sgOf L S ids i) = decide (ordI (detD (t1, t2, t3) (s1, s2, s3) (p1, p2, p3)) 0 = ordI (detD (u1, u2, u3) (w1, w2, w3) (q1, q2, q3)) 0)) := hide (by rw [unhide HSI, unhide HSJ, unhide HSG]; rfl)
          generalize ordI (detD (t1, t2, t3) (s1, s2, s3) (p1, p2, p3)) 0 = o1 at *
          generalize ordI (detD (u1, u2, u3) (w1, w2, w3) (q1, q2, q3)) 0 = o2 at *
          simp only at cX cY cZ cX2 cY2 cZ2
          obtain ⟨c0, c1, c2⟩ := hsp
          obtain ⟨d0, d1, d2'⟩ := hpp
          obtain ⟨e0, e1, e2⟩ := unhide HV6
          obtain ⟨f0, f1, f2⟩ := unhide HW6
          obtain ⟨g0, g1, g2⟩ := unhide HU6
          obtain ⟨h0, h1, h2⟩ := htp
          have rc0 := cell_regrown c0
          have rc1 := cell_regrown c1
          have rc2 := cell_regrown c2
          have rd0 := cell_regrown d0
          have rd1 := cell_regrown d1
          have rd2 := cell_regrown d2'
          have re0 := cell_regrown e0
          have re1 := cell_regrown e1
          have re2 := cell_regrown e2
          have rf0 := cell_regrown f0
          have rf1 := cell_regrown f1
          have rf2 := cell_regrown f2
          have rg0 := cell_regrown g0
          have rg1 := cell_regrown g1
          have rg2 := cell_regrown g2
          have rh0 := cell_regrown h0
          have rh1 := cell_regrown h1
          have rh2 := cell_regrown h2
          clear c0 c1 c2 d0 d1 d2' e0 e1 e2 f0 f1 f2 g0 g1 g2 h0 h1 h2
          have hjk3 : (j : Int) < (k : Int) + 1 := by omega
          refine wp_region_quiet_below (by kernel_rfl) (by kernel_rfl) ?_
          repeat (go_big_quiet_step (first | (with_reducible exact Calls.regrown_of (unhide cX _)) | (with_reducible exact Calls.regrown_of (unhide cY _)) | (with_reducible exact Calls.regrown_of (unhide cZ _)) | (with_reducible exact Calls.regrown_of (unhide cX2 _)) | (with_reducible exact Calls.regrown_of (unhide cY2 _)) | (with_reducible exact Calls.regrown_of (unhide cZ2 _))))
          refine wpQuiet_nil ?_
          intro _ hw'
          obtain ⟨⟨dq, osq⟩, hw''⟩ := hw'
          subst hw''
          have hx := below_regrown W7 dq osq
          have HB8 := hide (below_call (unhide HB6) hx)
          have HV8 := hide ((unhide HV6).kept (vltD (unhide HV6)) hx)
          have HW8 := hide ((unhide HW6).kept (vltD (unhide HW6)) hx)
          generalize grow (redrawn W7 dq) osq = W8 at hx HB8 HV8 HW8 ⊢
          clear hx rc0 rc1 rc2 rd0 rd1 rd2 re0 re1 re2 rf0 rf1 rf2 rg0 rg1 rg2 rh0 rh1 rh2 cX cY cZ cX2 cY2 cZ2 HB6 HV6 HW6 HU6
          by_cases ho : o1 = o2
          · subst ho
            have HOK : Hid ((decide (ids.getD j 0 = 0) || sideB sg (sgOf L S ids j) (sgOf L S ids i)) = true) := hide (by rw [unhide HSB]; simp)
            go_wp2_with fail
            go_roundw
            case rel => first | exact ⟨j + 1, by omega, by go_num, hide (sides_step (unhide HL) (unhide HOK)), HV8, HW8, HB8⟩ | exact ⟨j + 1, by omega, by omega, hide (sides_step (unhide HL) (unhide HOK))⟩
            case measure => simp [intOf] <;> omega
          · have ho' : (o1 == o2) = false := by simp [ho]
            have HNO := hide (fitsI_no hik (stepI_side (L := L) (S := S) (s := sg) (unhide HXN) hji (unhide HYN) (by rw [unhide HSB]; exact decide_eq_false ho)))
            go_wp2_with fail
            go_ret
            exact ⟨by rw [unhide HNO]; rfl, unhide HB8⟩
        · have hji' : j = i := by omega
          subst hji'
          have HOK := hide (stepI_yes (unhide HDX) (unhide HFT) (unhide HL))
          go_wp2_with fail
          go_roundw
          case rel => exact ⟨j + 1, by omega, by go_num, hide (fun l hl => by
            by_cases e : l = j
            · rw [e]; exact unhide HOK
            · exact unhide HF l (by omega)), HV, HB⟩
          case measure => simp [intOf] <;> omega
    · have hik' : i = k := by omega
      subst hik'
      have HY := hide (fitsI_yes (unhide HF))
      go_wp2_with fail
      go_ret
      exact ⟨by rw [unhide HY]; rfl, unhide HB⟩
theorem namedI_yes {L : List St} {S : List D3} {ids : List Int} {n : Nat} (h : ∀ i, i < n → (decide (ids.getD i 0 = 0) || (!zeroD (atV L L.length (ids.getD i 0)) && fitsI L S ids (sgOf L S ids i) i)) = true) : namedI L S ids n = true := by
  unfold namedI
  rw [List.all_eq_true]
  exact fun i hi => h i (List.mem_range.1 hi)
theorem namedI_no {L : List St} {S : List D3} {ids : List Int} {n i : Nat} (hi : i < n) (h : (decide (ids.getD i 0 = 0) || (!zeroD (atV L L.length (ids.getD i 0)) && fitsI L S ids (sgOf L S ids i) i)) = false) : namedI L S ids n = false := by
  unfold namedI
  rw [List.all_eq_false]
  exact ⟨i, List.mem_range.2 hi, by rw [h]; simp⟩
def namedTo (L : List St) (S : List D3) (ids : List Int) (n : Nat) : Prop := ∀ i, i < n → (decide (ids.getD i 0 = 0) || (!zeroD (atV L L.length (ids.getD i 0)) && fitsI L S ids (sgOf L S ids i) i)) = true
theorem namedTo_step {L : List St} {S : List D3} {ids : List Int} {n : Nat} (h : namedTo L S ids n) (h1 : (decide (ids.getD n 0 = 0) || (!zeroD (atV L L.length (ids.getD n 0)) && fitsI L S ids (sgOf L S ids n) n)) = true) : namedTo L S ids (n + 1) := fun l hl => by
  by_cases e : l = n
  · rw [e]; exact h1
  · exact h l (by omega)
theorem namedTo_none (L : List St) (S : List D3) (ids : List Int) : namedTo L S ids 0 := fun j hj => absurd hj (Nat.not_lt_zero _)
theorem namedTo_small {L : List St} {S : List D3} {ids : List Int} {n : Nat} (hk : skyB L = true) (h : namedTo L S ids n) (i : Nat) (hi : i < n) (h0 : ids.getD i 0 ≠ 0) : smallB (atV L L.length (ids.getD i 0)).1 (atV L L.length (ids.getD i 0)).2.1 (atV L L.length (ids.getD i 0)).2.2 = true := by
  have h1 := h i hi
  rw [decide_eq_false h0, Bool.false_or, Bool.and_eq_true] at h1
  exact at_small hk (by simpa using h1.1)
theorem Dirs.sub {w : World} {a : Option Addr} {L : List D3} {n m : Nat} (h : Dirs w a L n) (hm : m ≤ n) : Dirs w a L m := h.less hm
theorem Nums.less {w : World} {a : Option Addr} {L : List Int} {n m : Nat} (h : Nums w a L n) (hm : m ≤ n) : Nums w a L m := by
  rcases h with h | ⟨b, o, ha, hb, hc⟩
  · exact .inl (by omega)
  · exact .inr ⟨b, o, ha, hb, fun i hi => hc i (by omega)⟩
set_option maxHeartbeats 4000000 in
set_option maxRecDepth 100000 in
theorem l06Named_any (L : List St) (S : List D3) (ids : List Int) (ar br ir : Option Addr) (cr dr er : Nat) (w : World) (hk : skyB L = true) (hp : spotsB S = true) (hn3 : ids.length ≤ 1048576) (hd : S.length ≤ dr) (he : ids.length ≤ er) (hS : Stars w ar L L.length) (hD : Dirs w br S S.length) (hI : Nums w ir ids ids.length) :
    Calls Tryd.prog 20 #[.slice ar L.length cr, .slice br S.length dr, .slice ir ids.length er] w fun e w' => e = .returned (.bool (decide (ids.length = S.length) && namedI L S ids ids.length)) ∧ Below w.heap.size w w' := by
  have hm6 := (spots_ok hp).1
  have hn12 := (sky_ok hk).1
  by_cases hl0 : ids.length ≠ S.length
  · rw [decide_eq_false hl0, Bool.false_and]
    have h1 : ((ids.length : Int) == (S.length : Int)) = false := by simp; omega
    have h2 : ¬ (ids.length : Int) = (S.length : Int) := by omega
    clear hS hD hI
    generalize S.length = m at *
    generalize ids.length = k at *
    go_enter Tryd.func20, Tryd.ntmps20
    go_wp2_with fail
    go_ret
    exact ⟨rfl, Below.refl _ _⟩
  have hl : ids.length = S.length := Decidable.not_not.1 hl0
  clear hl0
  rw [decide_eq_true hl, Bool.true_and]
  have HWD : Hid (∀ j, j < S.length → wideD (vA S j) = true) := hide (fun j hj => okV_wide ((spots_ok hp).2 j hj))
  have HSM : Hid (∀ n, namedTo L S ids n → ∀ i, i < n → ids.getD i 0 ≠ 0 → smallB (atV L L.length (ids.getD i 0)).1 (atV L L.length (ids.getD i 0)).2.1 (atV L L.length (ids.getD i 0)).2.2 = true) := hide (fun n h => namedTo_small hk h)
  have HSZ : Hid (∀ id, zeroD (atV L L.length id) = false → smallB (atV L L.length id).1 (atV L L.length id).2.1 (atV L L.length id).2.2 = true) := hide (fun id h => at_small hk h)
  have cA := hide (fun (W : World) (q : Int) hW => l04At_any L L.length q ar cr W (by omega) hW)
  have cF : Hid (∀ (k : Nat) (id : Int) (b i : Option Addr) (d e : Nat) (W : World), k ≤ 6 → Stars W ar L L.length → Dirs W b S (k + 1) → Nums W i ids k → (∀ i, i ≤ k → wideD (vA S i) = true) → smallB (atV L L.length id).1 (atV L L.length id).2.1 (atV L L.length id).2.2 = true → (∀ i, i < k → ids.getD i 0 ≠ 0 → smallB (atV L L.length (ids.getD i 0)).1 (atV L L.length (ids.getD i 0)).2.1 (atV L L.length (ids.getD i 0)).2.2 = true) → Calls Tryd.prog 40 #[.slice ar L.length cr, .slice b ((k : Nat) + 1) d, .slice i k e, .int .i64 id] W fun e w' => e = .returned (.bool (fitsI L S ids (vA S k, (id, atV L L.length id)) k)) ∧ Below W.heap.size W w') := hide (fun k id b i d e W h6 h1 h2 h3 h4 h5 h7 => l06Fits_any L S ids k id ar b i cr d e W h6 hn12 h1 h2 h3 h4 h5 h7)
  have HNT : Hid (∀ n, namedTo L S ids n → namedI L S ids n = true) := hide (fun n h => namedI_yes h)
  have HSO : Hid (∀ i, sgOf L S ids i = (vA S i, (ids.getD i 0, atV L L.length (ids.getD i 0)))) := hide (fun i => rfl)
  have HNN : Hid (∀ n i, i < n → (decide (ids.getD i 0 = 0) || (!zeroD (atV L L.length (ids.getD i 0)) && fitsI L S ids (sgOf L S ids i) i)) = false → namedI L S ids n = false) := hide (fun n i hi h => namedI_no hi h)
  have HNS : Hid (∀ n, namedTo L S ids n → (decide (ids.getD n 0 = 0) || (!zeroD (atV L L.length (ids.getD n 0)) && fitsI L S ids (sgOf L S ids n) n)) = true → namedTo L S ids (n + 1)) := hide (fun n h h1 => namedTo_step h h1)
  have HN0 := hide (namedTo_none L S ids)
  have HS := hide hS
  have HD := hide hD
  clear hS hD hk hp
  rw [← hl] at HWD HD hm6 hd
  rw [← hl]
  clear hl
  generalize namedTo L S ids = NT at *
  generalize L.length = n at *
  rcases hI with h0 | ⟨ib, io, rfl, hib, hic⟩
  · rw [h0] at *
    have HY := hide (unhide HNT 0 (unhide HN0))
    go_enter Tryd.func20, Tryd.ntmps20
    go_wp2_with fail
    refine wp_loop_rounds 1 ?_
    rw [rounds_succ]
    go_wp2_with fail
    go_ret
    exact ⟨by rw [unhide HY]; rfl, Below.refl _ _⟩
  have HI : Hid (Nums w (some ⟨ib, io, none⟩) ids ids.length) := hide (.inr ⟨ib, io, rfl, hib, hic⟩)
  have HIC := hide hic
  clear hic
  generalize ids.length = k at *
  go_enter Tryd.func20, Tryd.ntmps20
  go_wp2_with fail
  go_loopw [7] (fun kk wr => ∃ i : Nat, i ≤ k ∧ kk = .int .i64 i ∧ Hid (NT i) ∧ Hid (Below w.heap.size w wr)) (fun kk _ => k - (intOf kk).toNat)
  case atStart => exact ⟨0, by omega, rfl, HN0, hide (Below.refl _ _)⟩
  case round =>
    obtain ⟨i, hi, rfl, HF, HB⟩ := hrel
    by_cases hik : i < k
    · have hik2 : (i : Int) < (k : Int) := by omega
      have ci : wr.cell? ⟨ib, io + i, none⟩ = some (.int .i64 (ids.getD i 0)) := by rw [(unhide HB).cell (p := ⟨ib, io + i, none⟩) hib]; exact unhide HIC i hik
      have HNSi := hide (unhide HNS i (unhide HF))
      have HNNi := hide (unhide HNN k i hik)
      rw [unhide HSO i] at HNSi HNNi
      obtain ⟨x, hxi⟩ : ∃ x, ids.getD i 0 = x := ⟨_, rfl⟩
      rw [hxi] at ci HNSi HNNi
      clear hxi
      by_cases hx0 : x = 0
      · subst hx0
        have HF2 := hide (unhide HNSi rfl)
        go_wp2_with fail
        go_roundw
        case rel => exact ⟨i + 1, by omega, by go_num, HF2, HB⟩
        case measure => simp [intOf] <;> omega
      have hx0' : (x == 0) = false := by simp [hx0]
      rw [decide_eq_false hx0, Bool.false_or] at HNSi HNNi
      have cAx := hide (fun (W : World) hW => unhide cA W x hW)
      have cFx := hide (fun (W : World) b i' d e h1 h2 h3 h4 => unhide cF i x b i' d e W (by omega) h1 h2 h3 (fun j hj => unhide HWD j (by omega)) h4 (unhide HSM i (unhide HF)))
      have HSX := hide (unhide HSZ x)
      generalize fitsI L S ids (vA S i, (x, atV L n x)) i = fv at *
      generalize atV L n x = q at *
      obtain ⟨q1, q2, q3⟩ := q
      have HSX' : Hid (eqB q1 q2 q3 0 0 0 = false → smallB q1 q2 q3 = true) := HSX
      have HNSi' : Hid ((!eqB q1 q2 q3 0 0 0 && fv) = true → NT (i + 1)) := HNSi
      have HNNi' : Hid ((!eqB q1 q2 q3 0 0 0 && fv) = false → namedI L S ids k = false) := HNNi
      clear HSX HNSi HNNi
      have heq := fun W => eql_vec q1 q2 q3 0 0 0 W
      have Z := below1 wr (.cells #[.int .i64 0, .int .i64 0, .int .i64 0] 46)
      have HB1 := hide (below_call (unhide HB) Z)
      have HZ1 := vecAt_new wr 0 0 0 46
      have ci2 := cellKept ci Z
      clear Z HB
      unfold vecV at cAx
      simp only at cAx
      go_wp2_with fail
      clear ci
      generalize wr.alloc (.cells #[.int .i64 0, .int .i64 0, .int .i64 0] 46) = W1 at HB1 HZ1 ci2 ⊢
      generalize wr.heap.size = zb at *
      obtain ⟨z0, z1, z2⟩ := HZ1
      have r0 := cell_regrown z0
      have r1 := cell_regrown z1
      have r2 := cell_regrown z2
      have ri := cell_regrown ci2
      clear z0 z1 z2 ci2
      have HS1 := hide ((unhide HS).kept (unhide HB1))
      have HD1 := hide (((unhide HD).less (show i + 1 ≤ k by omega)).kept (unhide HB1))
      have HI1 := hide (((unhide HI).less (show i ≤ k by omega)).kept (unhide HB1))
      have hi1 : ((i : Int) + 1) ≤ (dr : Int) := by omega
      have hi2 : (i : Int) ≤ (er : Int) := by omega
      cases hz : eqB q1 q2 q3 0 0 0
      · rw [hz] at heq HSX' HNSi' HNNi'
        have hsm := unhide HSX' rfl
        have cFy := hide (fun (W : World) b i' d e h1 h2 h3 => unhide cFx W b i' d e h1 h2 h3 hsm)
        refine wp_region_quiet_below (by kernel_rfl) (by kernel_rfl) ?_
        repeat (go_big_quiet_step (first | (with_reducible exact Calls.regrown_of (unhide cAx _ ((unhide HS1).kept (below_regrown _ _ _)))) | (with_reducible exact Calls.regrown_of (unhide cFy _ _ _ _ _ ((unhide HS1).kept (below_regrown _ _ _)) ((unhide HD1).kept (below_regrown _ _ _)) ((unhide HI1).kept (below_regrown _ _ _))))))
        refine wpQuiet_nil ?_
        intro _ hw'
        obtain ⟨⟨dq, osq⟩, hw''⟩ := hw'
        subst hw''
        have hx := below_call (unhide HB1) (below_regrown W1 dq osq)
        generalize grow (redrawn W1 dq) osq = W2 at hx ⊢
        have HB2 := hide hx
        clear hx r0 r1 r2 ri heq cAx cFx cFy HS1 HD1 HI1 HB1
        cases fv
        · have HNO := hide (unhide HNNi' rfl)
          go_wp2_with fail
          go_ret
          exact ⟨by rw [unhide HNO]; rfl, unhide HB2⟩
        · have HF2 := hide (unhide HNSi' rfl)
          go_wp2_with fail
          go_roundw
          case rel => exact ⟨i + 1, by omega, by go_num, HF2, HB2⟩
          case measure => simp [intOf] <;> omega
      · rw [hz] at heq HNNi'
        have HNO := hide (unhide HNNi' rfl)
        refine wp_region_quiet_below (by kernel_rfl) (by kernel_rfl) ?_
        repeat (go_big_quiet_step (first | (with_reducible exact Calls.regrown_of (unhide cAx _ ((unhide HS1).kept (below_regrown _ _ _))))))
        refine wpQuiet_nil ?_
        intro _ hw'
        obtain ⟨⟨dq, osq⟩, hw''⟩ := hw'
        subst hw''
        have hx := below_call (unhide HB1) (below_regrown W1 dq osq)
        generalize grow (redrawn W1 dq) osq = W2 at hx ⊢
        go_wp2_with fail
        go_ret
        exact ⟨by rw [unhide HNO]; rfl, hx⟩
    · have hik' : i = k := by omega
      subst hik'
      have HY := hide (unhide HNT i (unhide HF))
      go_wp2_with fail
      go_ret
      exact ⟨by rw [unhide HY]; rfl, unhide HB⟩
end Go.Proofs.YtphfllkkpblbaaaDoor

namespace Go.Proofs.YtphfllkkpblbaaaDoor
open Go.RowKit Go.Sort
set_option linter.unusedVariables false

theorem named_is {L : List St} {S : List D3} {ids : List Int} (h1 : skyB L = true) (h2 : spotsB S = true) : (decide (ids.length = S.length) && namedI L S ids ids.length) = namedB L S ids := by
  unfold namedB
  rw [h1, h2, named_eq]
  rfl
theorem named_long {L : List St} {S : List D3} {ids : List Int} (h : 6 < ids.length) : namedB L S ids = false := by
  cases h2 : spotsB S
  · exact named_no2 h2
  · exact named_no3 (by have := (spots_ok h2).1; omega)
set_option maxHeartbeats 4000000 in
set_option maxRecDepth 100000 in
theorem specNamed_any (L : List St) (S : List D3) (ids : List Int) (ar br ir : Option Addr) (cr dr er : Nat) (w : World) (hn : L.length ≤ 1048576) (hn2 : S.length ≤ 1048576) (hn3 : ids.length ≤ 1048576) (hd : S.length ≤ dr) (he : ids.length ≤ er) (hS : Stars w ar L L.length) (hD : Dirs w br S S.length) (hI : Nums w ir ids ids.length) :
    Calls Tryd.prog 7 #[.slice ar L.length cr, .slice br S.length dr, .slice ir ids.length er] w fun e w' => e = .returned (.bool (namedB L S ids)) ∧ Below w.heap.size w w' := by
  have cK := hide (fun (W : World) hW => specSky_any L ar cr W hn hW)
  have cP := hide (fun (W : World) hW => specSpotsRight_any S br dr W hn2 hW)
  have cM : Hid (skyB L = true → spotsB S = true → ∀ W : World, Stars W ar L L.length → Dirs W br S S.length → Nums W ir ids ids.length → Calls Tryd.prog 20 #[.slice ar L.length cr, .slice br S.length dr, .slice ir ids.length er] W fun e w' => e = .returned (.bool (namedB L S ids)) ∧ Below W.heap.size W w') := hide (fun hk hp W h1 h2 h3 => by
    rw [← named_is hk hp]
    exact l06Named_any L S ids ar br ir cr dr er W hk hp hn3 hd he h1 h2 h3)
  have H1 : Hid (skyB L = false → namedB L S ids = false) := hide named_no1
  have H2 : Hid (spotsB S = false → namedB L S ids = false) := hide named_no2
  have H5 : Hid (400 < L.length → namedB L S ids = false) := hide (fun h => named_no1 (sky_long (by omega)))
  have H6 : Hid (400 < S.length → namedB L S ids = false) := hide (fun h => named_no2 (spots_long (by omega)))
  have H7 : Hid (400 < ids.length → namedB L S ids = false) := hide (fun h => named_long (by omega))
  have HS := hide hS
  have HD := hide hD
  have HI := hide hI
  clear hS hD hI
  generalize namedB L S ids = R at *
  generalize S.length = m at *
  generalize ids.length = k at *
  generalize L.length = n at *
  by_cases hbn : 400 < n
  · have hb' : decide ((n : Int) ≤ 400) = false := by simp; omega
    have hb2 : ¬ (n : Int) ≤ 400 := by omega
    obtain rfl := unhide H5 hbn
    go_enter Tryd.func7, Tryd.ntmps7
    go_wp2_with fail
    go_ret
    exact ⟨rfl, Below.refl _ _⟩
  have hbn' : decide ((n : Int) ≤ 400) = true := by simp; omega
  have hbn2 : (n : Int) ≤ 400 := by omega
  by_cases hbm : 400 < m
  · have hb' : decide ((m : Int) ≤ 400) = false := by simp; omega
    have hb2 : ¬ (m : Int) ≤ 400 := by omega
    obtain rfl := unhide H6 hbm
    go_enter Tryd.func7, Tryd.ntmps7
    go_wp2_with fail
    go_ret
    exact ⟨rfl, Below.refl _ _⟩
  have hbm' : decide ((m : Int) ≤ 400) = true := by simp; omega
  have hbm2 : (m : Int) ≤ 400 := by omega
  by_cases hbk : 400 < k
  · have hb' : decide ((k : Int) ≤ 400) = false := by simp; omega
    have hb2 : ¬ (k : Int) ≤ 400 := by omega
    obtain rfl := unhide H7 hbk
    go_enter Tryd.func7, Tryd.ntmps7
    go_wp2_with fail
    go_ret
    exact ⟨rfl, Below.refl _ _⟩
  have hbk' : decide ((k : Int) ≤ 400) = true := by simp; omega
  have hbk2 : (k : Int) ≤ 400 := by omega
  go_enter Tryd.func7, Tryd.ntmps7
  go_wp2_with fail
  refine (unhide cK _ (unhide HS)).mono ?_
  rintro e W1 ⟨rfl, hx⟩
  have B1 := hide hx
  clear hx
  cases hk : skyB L
  · obtain rfl := unhide H1 hk
    go_wp2_with fail
    go_ret
    exact ⟨rfl, unhide B1⟩
  go_wp2_with fail
  refine (unhide cP _ ((unhide HD).kept (unhide B1))).mono ?_
  rintro e W2 ⟨rfl, hx⟩
  have B2 := hide (below_call (unhide B1) hx)
  clear hx B1
  cases hp : spotsB S
  · obtain rfl := unhide H2 hp
    go_wp2_with fail
    go_ret
    exact ⟨rfl, unhide B2⟩
  have cM' := hide (unhide cM hk hp)
  clear hk hp cM cK cP H1 H2 H5 H6 H7
  go_wp2_with fail
  refine (unhide cM' _ ((unhide HS).kept (unhide B2)) ((unhide HD).kept (unhide B2)) ((unhide HI).kept (unhide B2))).mono ?_
  rintro e W3 ⟨rfl, hx⟩
  go_wp2_with fail
  go_ret
  exact ⟨rfl, below_call (unhide B2) hx⟩
end Go.Proofs.YtphfllkkpblbaaaDoor
