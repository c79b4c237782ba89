/- Several texts in one: NaD, NaE, IeA, IeB, IeC. -/
import Derived.Test.YtoakkmjcbnfljaaGreatDoorQFnIdentOwn6
import Derived.Test.YtoakkmjcbnfljaaGreatDoorQFnIdentOwn2
import Derived.Test.YtoakkmjcbnfljaaGreatDoorQFnIdentOwn4
import Derived.Test.YtoakkmjcbnfljaaGreatDoorQFnIdentOwn5
namespace Go.Proofs.YtoakkmjcbnfljaaGreatDoor
set_option linter.unusedVariables false
set_option linter.unusedSimpArgs false
set_option maxRecDepth 100000
set_option maxHeartbeats 8000000
section
open Go.RowKit Go.Sort
theorem qQ {p q r : D3} (hp : aq p.1 p.2.1 p.2.2 = true) (hq : aq q.1 q.2.1 q.2.2 = true) (hr : aq r.1 r.2.1 r.2.2 = true) :
  kH p q r = bf (crW p.2.1 p.2.2 q.2.1 q.2.2) (crW p.2.2 p.1 q.2.2 q.1) (crW p.1 p.2.1 q.1 q.2.1) r.1 r.2.1 r.2.2 := by
 unfold kH ka
 rw [hp, hq, hr]
 rfl
theorem mo (p q r : D3) (hp : aq p.1 p.2.1 p.2.2 = true) (hq : aq q.1 q.2.1 q.2.2 = true) (hr : aq r.1 r.2.1 r.2.2 = true) : ∃ (x1 x2 x3 d : Int),
  Hid (∀ W : World, Calls Tryz.prog 81 #[.agg #[.int .i64 p.1, .int .i64 p.2.1, .int .i64 p.2.2], .agg #[.int .i64 q.1, .int .i64 q.2.1, .int .i64 q.2.2]] W fun e w' => e = .returned (.agg #[.int .i64 x1, .int .i64 x2, .int .i64 x3]) ∧ Below W.heap.size W w')
  ∧ Hid (∀ W : World, Calls Tryz.prog 82 #[.agg #[.int .i64 x1, .int .i64 x2, .int .i64 x3], .agg #[.int .i64 r.1, .int .i64 r.2.1, .int .i64 r.2.2]] W fun e w' => e = .returned (.int .i64 d) ∧ Below W.heap.size W w')
  ∧ Hid (∀ W : World, Calls Tryz.prog 98 #[.int .i64 d] W fun e w' => e = .returned (.int .i64 (dD (kH p q r) 0)) ∧ Below W.heap.size W w') := by
 refine ⟨_, _, _, _, yz (fun W => iM _ _ _ _ _ _ W), yz (fun W => dC _ _ _ _ _ _ W), yz (fun W => (cj _ W).mono fun e w' h => ?_)⟩
 obtain ⟨he, hw⟩ := h
 refine ⟨?_, by rw [hw]; exact Below.refl _ _⟩
 rw [he, qQ hp hq hr]
 rfl
theorem rR (p q r s : D3) (hp : ek p = true) (hq : ek q = true) (hr : aH r.1 r.2.1 r.2.2 = true) (hs : aH s.1 s.2.1 s.2.2 = true) (W : World) :
  Calls Tryz.prog 97 #[.agg #[.int .i64 p.1, .int .i64 p.2.1, .int .i64 p.2.2], .agg #[.int .i64 q.1, .int .i64 q.2.1, .int .i64 q.2.2], .agg #[.int .i64 r.1, .int .i64 r.2.1, .int .i64 r.2.2], .agg #[.int .i64 s.1, .int .i64 s.2.1, .int .i64 s.2.2]] W fun e w' => e = .returned (.int .i64 (iq p.1 p.2.1 p.2.2 q.1 q.2.1 q.2.2 r.1 r.2.1 r.2.2 s.1 s.2.1 s.2.2)) ∧ Below W.heap.size W w' := by
 rw [te hp hq hr hs]
 exact pF _ _ _ _ _ _ _ _ _ _ _ _ W
def ff (L : List St) (S : List D3) (ids : List Int) (s : Sg) (i : Nat) : Bool := decide (ids.getD i 0 = 0) || (decide (s.2.1 ≠ ids.getD i 0) && fl s (aY L S ids i) && (List.range i).all (fun j => decide (ids.getD j 0 = 0) || bM s (aY L S ids j) (aY L S ids i)))
theorem qS {L : List St} {S : List D3} {ids : List Int} {s : Sg} {n : Nat} (h : ∀ i, i < n → ff L S ids s i = true) : dt L S ids s n = true := by
 unfold dt
 rw [List.all_eq_true]
 exact fun i hi => h i (List.mem_range.1 hi)
theorem kL {L : List St} {S : List D3} {ids : List Int} {s : Sg} {n i : Nat} (hi : i < n) (h : ff L S ids s i = false) : dt L S ids s n = false := by
 unfold dt
 rw [List.all_eq_false]
 exact ⟨i, List.mem_range.2 hi, by unfold ff at h; rw [h]; simp⟩
theorem pY {L : List St} {S : List D3} {ids : List Int} {s : Sg} {i : Nat} (h : ids.getD i 0 = 0) : ff L S ids s i = true := by unfold ff; rw [decide_eq_true h, Bool.true_or]
theorem pW {L : List St} {S : List D3} {ids : List Int} {s : Sg} {i : Nat} (h : ids.getD i 0 ≠ 0) (h1 : s.2.1 = ids.getD i 0) : ff L S ids s i = false := by
 unfold ff
 rw [decide_eq_false h, Bool.false_or, show decide (s.2.1 ≠ ids.getD i 0) = false from decide_eq_false (fun g => g h1)]
 rfl
theorem rD {L : List St} {S : List D3} {ids : List Int} {s : Sg} {i : Nat} (h : ids.getD i 0 ≠ 0) (h1 : fl s (aY L S ids i) = false) : ff L S ids s i = false := by
 unfold ff
 rw [decide_eq_false h, Bool.false_or, h1, Bool.and_false]
 rfl
theorem pX {L : List St} {S : List D3} {ids : List Int} {s : Sg} {i j : Nat} (h : ids.getD i 0 ≠ 0) (hj : j < i) (h0 : ids.getD j 0 ≠ 0) (h1 : bM s (aY L S ids j) (aY L S ids i) = false) : ff L S ids s i = false := by
 unfold ff
 have : ((List.range i).all fun j => decide (ids.getD j 0 = 0) || bM s (aY L S ids j) (aY L S ids i)) = false := by
  rw [List.all_eq_false]
  exact ⟨j, List.mem_range.2 hj, by rw [decide_eq_false h0, h1]; simp⟩
 rw [decide_eq_false h, Bool.false_or, this, Bool.and_false]
theorem rE {L : List St} {S : List D3} {ids : List Int} {s : Sg} {i : Nat} (h1 : s.2.1 ≠ ids.getD i 0) (h2 : fl s (aY L S ids i) = true) (h3 : ∀ j, j < i → (decide (ids.getD j 0 = 0) || bM s (aY L S ids j) (aY L S ids i)) = true) : ff L S ids s i = true := by
 unfold ff
 rw [decide_eq_true h1, h2, show ((List.range i).all fun j => decide (ids.getD j 0 = 0) || bM s (aY L S ids j) (aY L S ids i)) = true from List.all_eq_true.2 (fun j hj => h3 j (List.mem_range.1 hj))]
 simp
def kt (L : List St) (S : List D3) (ids : List Int) (s : Sg) (i j : Nat) : Prop := ∀ l, l < j → (decide (ids.getD l 0 = 0) || bM s (aY L S ids l) (aY L S ids i)) = true
theorem iy {L : List St} {S : List D3} {ids : List Int} {s : Sg} {i j : Nat} (h : kt L S ids s i j) (h1 : (decide (ids.getD j 0 = 0) || bM s (aY L S ids j) (aY L S ids i)) = true) : kt L S ids s i (j + 1) := fun l hl => by
 by_cases e : l = j
 ·rw [e]; exact h1
 ·exact h l (by omega)
theorem pU (L : List St) (S : List D3) (ids : List Int) (s : Sg) (i : Nat) : kt L S ids s i 0 := fun j hj => absurd hj (Nat.not_lt_zero _)
theorem jL (L : List St) (S : List D3) (ids : List Int) (k : Nat) (id : Int) (ar br ir : Option Addr) (cr dr er : Nat) (w : World) (hk6 : k ≤ 6) (hn : L.length ≤ 12) (hS : aJ w ar L L.length) (hD : bi w br S (k + 1)) (hI : bF w ir ids k)
  (hwd : ∀ i, i ≤ k → ek (vA S i) = true) (hid : aH (atV L L.length id).1 (atV L L.length id).2.1 (atV L L.length id).2.2 = true) (hids : ∀ i, i < k → ids.getD i 0 ≠ 0 → aH (atV L L.length (ids.getD i 0)).1 (atV L L.length (ids.getD i 0)).2.1 (atV L L.length (ids.getD i 0)).2.2 = true) :
  Calls Tryz.prog 71 #[.slice ar L.length cr, .slice br (k + 1) dr, .slice ir k er, .int .i64 id] w fun e w' => e = .returned (.bool (dt L S ids (vA S k, (id, atV L L.length id)) k)) ∧ Below w.heap.size w w' := by
 have cA := yz (fun (W : World) (q : Int) hW => gD L L.length q ar cr W (by omega) hW)
 have HS := yz hS
 have HD := yz hD
 have HWD := yz hwd
 have HDS := yz hids
 have HSO : Hid (∀ i, aY L S ids i = (vA S i, (ids.getD i 0, atV L L.length (ids.getD i 0)))) := yz (fun i => rfl)
 clear hS hD hwd hids
 obtain ⟨⟨p1, p2, p3⟩, hp⟩ : ∃ p, vA S k = p := ⟨_, rfl⟩
 obtain ⟨⟨q1, q2, q3⟩, hq⟩ : ∃ p, atV L L.length id = p := ⟨_, rfl⟩
 obtain ⟨sg, hsg⟩ : ∃ sg : Sg, sg = ((p1, p2, p3), (id, q1, q2, q3)) := ⟨_, rfl⟩
 have cV := yz (fun (W : World) hW => yy cA W id hW)
 rw [hq] at hid cV
 have HWK : Hid (ek (p1, p2, p3) = true) := yz (by rw [← hp]; exact yy HWD k (Nat.le_refl _))
 have HIDS := yz hid
 rw [hp, hq, ← hsg]
 have HSG := yz hsg
 have HP := yz hp
 clear hp hq hsg hid
 generalize L.length = n at *
 go_enter Tryz.func71, Tryz.ntmps71
 go_wp2_with fail
 refine (yy cV _ (yy HS)).mono ?_
 rintro e W1 ⟨rfl, hx⟩
 unfold mb
 simp only
 have Z := ak W1 (.cells #[.int .i64 q1, .int .i64 q2, .int .i64 q3] 67)
 have HB1 := yz (aj hx Z)
 have HV1 := yz (aA W1 q1 q2 q3 67)
 clear hx Z cV
 go_wp2_with fail
 generalize W1.alloc (.cells #[.int .i64 q1, .int .i64 q2, .int .i64 q3] 67) = W2 at HB1 HV1 ⊢
 generalize W1.heap.size = vb at *
 rcases hI with h0 | ⟨ib, io, rfl, hib, hic⟩
 ·subst h0
  refine wp_loop_rounds 1 ?_
  rw [rounds_succ]
  go_wp2_with fail
  go_ret
  exact ⟨rfl, yy HB1⟩
 have HIC := yz hic
 clear hic
 rcases yy HD with h | ⟨bb, bo, rfl, hbb, hbc⟩
 ·omega
 have HBC := yz hbc
 clear hbc
 go_loopw [11] (fun kk wr => ∃ i : Nat, i ≤ k ∧ kk = .int .i64 i ∧ Hid (∀ j, j < i → ff L S ids sg j = true) ∧ Hid (aB wr vb q1 q2 q3) ∧ Hid (Below w.heap.size w wr)) (fun kk _ => k - (intOf kk).toNat)
 case atStart => exact ⟨0, by omega, rfl, yz (fun j hj => absurd hj (Nat.not_lt_zero _)), HV1, HB1⟩
 case round =>
  clear HV1 HB1
  obtain ⟨i, hi, rfl, HF, HV, HB⟩ := hrel
  by_cases hik : i < k
  ·have hik2 : (i : Int) < (k : Int) := by omega
   have ci : wr.cell? ⟨ib, io + i, none⟩ = some (.int .i64 (ids.getD i 0)) := by rw [(yy HB).cell (p := ⟨ib, io + i, none⟩) hib]; exact yy HIC i hik
   have HSI := yz (yy HSO i)
   obtain ⟨x, hxi⟩ : ∃ x, ids.getD i 0 = x := ⟨_, rfl⟩
   rw [hxi] at ci HSI
   have HX := yz hxi
   clear hxi
   by_cases hx0 : x = 0
   ·subst hx0
    have HOK := yz (pY (L := L) (S := S) (s := sg) (yy HX))
    go_wp2_with fail
    go_roundw
    case rel => exact ⟨i + 1, by omega, by go_num, yz (fun l hl => by
     by_cases e : l = i
     ·rw [e]; exact yy HOK
     ·exact yy HF l (by omega)), HV, HB⟩
    case measure => simp [intOf] <;> omega
   have hx0' : (x == 0) = false := by simp [hx0]
   have HXN : Hid (ids.getD i 0 ≠ 0) := yz (by rw [yy HX]; exact hx0)
   by_cases hxd : x = id
   ·subst hxd
    have HNO := yz (kL hik (pW (L := L) (S := S) (s := sg) (yy HXN) (by rw [yy HX, yy HSG])))
    go_wp2_with fail
    go_ret
    exact ⟨by rw [yy HNO]; rfl, yy HB⟩
   have hxd' : (x == id) = false := by simp [hxd]
   have HDX : Hid (sg.2.1 ≠ ids.getD i 0) := yz (by rw [yy HX, yy HSG]; exact fun e => hxd e.symm)
   have cW := yz (fun (W : World) hW => yy cA W x hW)
   have hsmx := yy HDS i hik (yy HXN)
   rw [yy HX] at hsmx
   obtain ⟨⟨w1, w2, w3⟩, hwv⟩ : ∃ p, atV L n x = p := ⟨_, rfl⟩
   rw [hwv] at cW hsmx HSI
   clear hwv
   obtain ⟨⟨s1, s2, s3⟩, hsv⟩ : ∃ p, vA S i = p := ⟨_, rfl⟩
   have HSVI := yz hsv
   rw [hsv] at HSI
   have hwi := yy HWD i (by omega)
   rw [hsv] at hwi
   clear hsv
   go_wp2_with fail
   refine (yy cW _ ((yy HS).kept (yy HB))).mono ?_
   rintro e W3 ⟨rfl, hx⟩
   unfold mb
   simp only
   have Z := ak W3 (.cells #[.int .i64 w1, .int .i64 w2, .int .i64 w3] 67)
   have HB3 := yz (aj (aj (yy HB) hx) Z)
   have HV3 := yz (((yy HV).kept (jb (yy HV)) hx).kept (Nat.lt_of_lt_of_le (jb (yy HV)) hx.size) Z)
   have HW3 := yz (aA W3 w1 w2 w3 67)
   clear hx Z cW ci HB HV
   go_wp2_with fail
   generalize W3.alloc (.cells #[.int .i64 w1, .int .i64 w2, .int .i64 w3] 67) = W4 at HB3 HV3 HW3 ⊢
   generalize W3.heap.size = wb at *
   have hsp := (yy HBC i (by omega)).kept hbb (yy HB3)
   have hpp := (yy HBC k (by omega)).kept hbb (yy HB3)
   rw [yy HSVI] at hsp
   rw [yy HP] at hpp
   have cC := yz (fun W => rR (s1, s2, s3) (p1, p2, p3) (w1, w2, w3) (q1, q2, q3) hwi (yy HWK) hsmx (yy HIDS) W)
   have HFA : Hid (fl sg (aY L S ids i) = decide (iq s1 s2 s3 p1 p2 p3 w1 w2 w3 q1 q2 q3 = 0)) := yz (by rw [yy HSI, yy HSG]; rfl)
   generalize iq s1 s2 s3 p1 p2 p3 w1 w2 w3 q1 q2 q3 = cv at *
   simp only at cC
   obtain ⟨c0, c1, c2⟩ := hsp
   obtain ⟨d0, d1, d2⟩ := hpp
   obtain ⟨e0, e1, e2⟩ := yy HV3
   obtain ⟨f0, f1, f2⟩ := yy HW3
   have rc0 := cell_regrown c0
   have rc1 := cell_regrown c1
   have rc2 := cell_regrown c2
   have rd0 := cell_regrown d0
   have rd1 := cell_regrown d1
   have rd2 := cell_regrown d2
   have re0 := cell_regrown e0
   have re1 := cell_regrown e1
   have re2 := cell_regrown e2
   have rf0 := cell_regrown f0
   have rf1 := cell_regrown f1
   have rf2 := cell_regrown f2
   clear c0 c1 c2 d0 d1 d2 e0 e1 e2 f0 f1 f2
   have hik3 : (i : Int) < (k : Int) + 1 := by omega
   have hkk3 : (k : Int) < (k : Int) + 1 := by omega
   refine wp_region_quiet_below (by kernel_rfl) (by kernel_rfl) ?_
   repeat (go_big_quiet_step (first | (with_reducible exact Calls.regrown_of (yy cC _))))
   refine wpQuiet_nil ?_
   intro _ hw'
   obtain ⟨⟨dq, osq⟩, hw''⟩ := hw'
   subst hw''
   have hx := below_regrown W4 dq osq
   have HB5 := yz (aj (yy HB3) hx)
   have HV5 := yz ((yy HV3).kept (jb (yy HV3)) hx)
   have HW5 := yz ((yy HW3).kept (jb (yy HW3)) hx)
   generalize grow (redrawn W4 dq) osq = W5 at hx HB5 HV5 HW5 ⊢
   clear hx rc0 rc1 rc2 rd0 rd1 rd2 re0 re1 re2 rf0 rf1 rf2 cC HB3 HV3 HW3
   by_cases hcv : cv ≠ 0
   ·have hcv' : (cv == 0) = false := by simp [hcv]
    have HNO := yz (kL hik (rD (L := L) (S := S) (s := sg) (yy HXN) (by rw [yy HFA]; exact decide_eq_false hcv)))
    go_wp2_with fail
    go_ret
    exact ⟨by rw [yy HNO]; rfl, yy HB5⟩
   have hcv0 : cv = 0 := Decidable.not_not.1 hcv
   subst hcv0
   clear hcv
   have HFT : Hid (fl sg (aY L S ids i) = true) := yz (by rw [yy HFA]; rfl)
   clear HFA
   go_wp2_with fail
   go_loopw [13] (fun kk wr => ∃ j : Nat, j ≤ i ∧ kk = .int .i64 j ∧ Hid (kt L S ids sg i j) ∧ Hid (aB wr vb q1 q2 q3) ∧ Hid (aB wr wb w1 w2 w3) ∧ Hid (Below w.heap.size w wr)) (fun kk _ => i - (intOf kk).toNat)
   case atStart => exact ⟨0, by omega, rfl, yz (pU _ _ _ _ _), HV5, HW5, HB5⟩
   case round =>
    clear HV5 HW5 HB5
    obtain ⟨j, hj, rfl, HL, HV, HW, HB⟩ := hrel
    by_cases hji : j < i
    ·have hji2 : (j : Int) < (i : Int) := by omega
     have hjk2 : (j : Int) < (k : Int) := by omega
     have ci : wr.cell? ⟨ib, io + j, none⟩ = some (.int .i64 (ids.getD j 0)) := by rw [(yy HB).cell (p := ⟨ib, io + j, none⟩) hib]; exact yy HIC j (by omega)
     have HSJ := yz (yy HSO j)
     obtain ⟨y, hyi⟩ : ∃ x, ids.getD j 0 = x := ⟨_, rfl⟩
     rw [hyi] at ci HSJ
     have HY := yz hyi
     clear hyi
     by_cases hy0 : y = 0
     ·subst hy0
      have HOK : Hid ((decide (ids.getD j 0 = 0) || bM sg (aY L S ids j) (aY L S ids i)) = true) := yz (by rw [yy HY]; rfl)
      go_wp2_with fail
      go_roundw
      case rel => exact ⟨j + 1, by omega, by go_num, yz (iy (yy HL) (yy HOK)), HV, HW, HB⟩
      case measure => simp [intOf] <;> omega
     have hy0' : (y == 0) = false := by simp [hy0]
     have HYN : Hid (ids.getD j 0 ≠ 0) := yz (by rw [yy HY]; exact hy0)
     have cU := yz (fun (W : World) hW => yy cA W y hW)
     have hsmy := yy HDS j (by omega) (yy HYN)
     rw [yy HY] at hsmy
     obtain ⟨⟨u1, u2, u3⟩, huv⟩ : ∃ p, atV L n y = p := ⟨_, rfl⟩
     rw [huv] at cU hsmy HSJ
     clear huv
     obtain ⟨⟨t1, t2, t3⟩, htv⟩ : ∃ p, vA S j = p := ⟨_, rfl⟩
     have HTVJ := yz htv
     rw [htv] at HSJ
     have hwj := yy HWD j (by omega)
     rw [htv] at hwj
     clear htv
     go_wp2_with fail
     refine (yy cU _ ((yy HS).kept (yy HB))).mono ?_
     rintro e W6 ⟨rfl, hx⟩
     unfold mb
     simp only
     have Z := ak W6 (.cells #[.int .i64 u1, .int .i64 u2, .int .i64 u3] 67)
     have HB6 := yz (aj (aj (yy HB) hx) Z)
     have HV6 := yz (((yy HV).kept (jb (yy HV)) hx).kept (Nat.lt_of_lt_of_le (jb (yy HV)) hx.size) Z)
     have HW6 := yz (((yy HW).kept (jb (yy HW)) hx).kept (Nat.lt_of_lt_of_le (jb (yy HW)) hx.size) Z)
     have HU6 := yz (aA W6 u1 u2 u3 67)
     clear hx Z cU ci HB HV HW
     go_wp2_with fail
     generalize W6.alloc (.cells #[.int .i64 u1, .int .i64 u2, .int .i64 u3] 67) = W7 at HB6 HV6 HW6 HU6 ⊢
     generalize W6.heap.size = ub at *
     have hsp := (yy HBC i (by omega)).kept hbb (yy HB6)
     have htp := (yy HBC j (by omega)).kept hbb (yy HB6)
     have hpp := (yy HBC k (by omega)).kept hbb (yy HB6)
     rw [yy HSVI] at hsp
     rw [yy HTVJ] at htp
     rw [yy HP] at hpp
     obtain ⟨x1, x2, x3, dd, cX, cY, cZ⟩ := mo (t1, t2, t3) (s1, s2, s3) (p1, p2, p3) (dU hwj).1 (dU hwi).1 (dU (yy HWK)).1
     obtain ⟨y1, y2, y3, d2, cX2, cY2, cZ2⟩ := mo (u1, u2, u3) (w1, w2, w3) (q1, q2, q3) (bd hsmy).1 (bd hsmx).1 (bd (yy HIDS)).1
     have HSB : Hid (bM sg (aY L S ids j) (aY L S ids i) = decide (dD (kH (t1, t2, t3) (s1, s2, s3) (p1, p2, p3)) 0 = dD (kH (u1, u2, u3) (w1, w2, w3) (q1, q2, q3)) 0)) := yz (by rw [yy HSI, yy HSJ, yy HSG]; rfl)
     generalize dD (kH (t1, t2, t3) (s1, s2, s3) (p1, p2, p3)) 0 = o1 at *
     generalize dD (kH (u1, u2, u3) (w1, w2, w3) (q1, q2, q3)) 0 = o2 at *
     simp only at cX cY cZ cX2 cY2 cZ2
     obtain ⟨c0, c1, c2⟩ := hsp
     obtain ⟨d0, d1, d2'⟩ := hpp
     obtain ⟨e0, e1, e2⟩ := yy HV6
     obtain ⟨f0, f1, f2⟩ := yy HW6
     obtain ⟨g0, g1, g2⟩ := yy HU6
     obtain ⟨h0, h1, h2⟩ := htp
     have rc0 := cell_regrown c0
     have rc1 := cell_regrown c1
     have rc2 := cell_regrown c2
     have rd0 := cell_regrown d0
     have rd1 := cell_regrown d1
     have rd2 := cell_regrown d2'
     have re0 := cell_regrown e0
     have re1 := cell_regrown e1
     have re2 := cell_regrown e2
     have rf0 := cell_regrown f0
     have rf1 := cell_regrown f1
     have rf2 := cell_regrown f2
     have rg0 := cell_regrown g0
     have rg1 := cell_regrown g1
     have rg2 := cell_regrown g2
     have rh0 := cell_regrown h0
     have rh1 := cell_regrown h1
     have rh2 := cell_regrown h2
     clear c0 c1 c2 d0 d1 d2' e0 e1 e2 f0 f1 f2 g0 g1 g2 h0 h1 h2
     have hjk3 : (j : Int) < (k : Int) + 1 := by omega
     refine wp_region_quiet_below (by kernel_rfl) (by kernel_rfl) ?_
     repeat (go_big_quiet_step (first | (with_reducible exact Calls.regrown_of (yy cX _)) | (with_reducible exact Calls.regrown_of (yy cY _)) | (with_reducible exact Calls.regrown_of (yy cZ _)) | (with_reducible exact Calls.regrown_of (yy cX2 _)) | (with_reducible exact Calls.regrown_of (yy cY2 _)) | (with_reducible exact Calls.regrown_of (yy cZ2 _))))
     refine wpQuiet_nil ?_
     intro _ hw'
     obtain ⟨⟨dq, osq⟩, hw''⟩ := hw'
     subst hw''
     have hx := below_regrown W7 dq osq
     have HB8 := yz (aj (yy HB6) hx)
     have HV8 := yz ((yy HV6).kept (jb (yy HV6)) hx)
     have HW8 := yz ((yy HW6).kept (jb (yy HW6)) hx)
     generalize grow (redrawn W7 dq) osq = W8 at hx HB8 HV8 HW8 ⊢
     clear hx rc0 rc1 rc2 rd0 rd1 rd2 re0 re1 re2 rf0 rf1 rf2 rg0 rg1 rg2 rh0 rh1 rh2 cX cY cZ cX2 cY2 cZ2 HB6 HV6 HW6 HU6
     by_cases ho : o1 = o2
     ·subst ho
      have HOK : Hid ((decide (ids.getD j 0 = 0) || bM sg (aY L S ids j) (aY L S ids i)) = true) := yz (by rw [yy HSB]; simp)
      go_wp2_with fail
      go_roundw
      case rel => first | exact ⟨j + 1, by omega, by go_num, yz (iy (yy HL) (yy HOK)), HV8, HW8, HB8⟩ | exact ⟨j + 1, by omega, by omega, yz (iy (yy HL) (yy HOK))⟩
      case measure => simp [intOf] <;> omega
     ·have ho' : (o1 == o2) = false := by simp [ho]
      have HNO := yz (kL hik (pX (L := L) (S := S) (s := sg) (yy HXN) hji (yy HYN) (by rw [yy HSB]; exact decide_eq_false ho)))
      go_wp2_with fail
      go_ret
      exact ⟨by rw [yy HNO]; rfl, yy HB8⟩
    ·have hji' : j = i := by omega
     subst hji'
     have HOK := yz (rE (yy HDX) (yy HFT) (yy HL))
     go_wp2_with fail
     go_roundw
     case rel => exact ⟨j + 1, by omega, by go_num, yz (fun l hl => by
      by_cases e : l = j
      ·rw [e]; exact yy HOK
      ·exact yy HF l (by omega)), HV, HB⟩
     case measure => simp [intOf] <;> omega
  ·have hik' : i = k := by omega
   subst hik'
   have HY := yz (qS (yy HF))
   go_wp2_with fail
   go_ret
   exact ⟨by rw [yy HY]; rfl, yy HB⟩
theorem pI {L : List St} {S : List D3} {ids : List Int} {n : Nat} (h : ∀ i, i < n → (decide (ids.getD i 0 = 0) || (!du (atV L L.length (ids.getD i 0)) && dt L S ids (aY L S ids i) i)) = true) : bZ L S ids n = true := by
 unfold bZ
 rw [List.all_eq_true]
 exact fun i hi => h i (List.mem_range.1 hi)
theorem rl {L : List St} {S : List D3} {ids : List Int} {n i : Nat} (hi : i < n) (h : (decide (ids.getD i 0 = 0) || (!du (atV L L.length (ids.getD i 0)) && dt L S ids (aY L S ids i) i)) = false) : bZ L S ids n = false := by
 unfold bZ
 rw [List.all_eq_false]
 exact ⟨i, List.mem_range.2 hi, by rw [h]; simp⟩
def eA (L : List St) (S : List D3) (ids : List Int) (n : Nat) : Prop := ∀ i, i < n → (decide (ids.getD i 0 = 0) || (!du (atV L L.length (ids.getD i 0)) && dt L S ids (aY L S ids i) i)) = true
theorem nF {L : List St} {S : List D3} {ids : List Int} {n : Nat} (h : eA L S ids n) (h1 : (decide (ids.getD n 0 = 0) || (!du (atV L L.length (ids.getD n 0)) && dt L S ids (aY L S ids n) n)) = true) : eA L S ids (n + 1) := fun l hl => by
 by_cases e : l = n
 ·rw [e]; exact h1
 ·exact h l (by omega)
theorem nE (L : List St) (S : List D3) (ids : List Int) : eA L S ids 0 := fun j hj => absurd hj (Nat.not_lt_zero _)
theorem lU {L : List St} {S : List D3} {ids : List Int} {n : Nat} (hk : aL L = true) (h : eA L S ids n) (i : Nat) (hi : i < n) (h0 : ids.getD i 0 ≠ 0) : aH (atV L L.length (ids.getD i 0)).1 (atV L L.length (ids.getD i 0)).2.1 (atV L L.length (ids.getD i 0)).2.2 = true := by
 have h1 := h i hi
 rw [decide_eq_false h0, Bool.false_or, Bool.and_eq_true] at h1
 exact iJ hk (by simpa using h1.1)
theorem bF.less {w : World} {a : Option Addr} {L : List Int} {n m : Nat} (h : bF w a L n) (hm : m ≤ n) : bF w a L m := by
 rcases h with h | ⟨b, o, ha, hb, hc⟩
 ·exact .inl (by omega)
 ·exact .inr ⟨b, o, ha, hb, fun i hi => hc i (by omega)⟩
theorem nw (L : List St) (S : List D3) (ids : List Int) (ar br ir : Option Addr) (cr dr er : Nat) (w : World) (hk : aL L = true) (hp : aM S = true) (hn3 : ids.length ≤ 1048576) (hd : S.length ≤ dr) (he : ids.length ≤ er) (hS : aJ w ar L L.length) (hD : bi w br S S.length) (hI : bF w ir ids ids.length) :
  Calls Tryz.prog 36 #[.slice ar L.length cr, .slice br S.length dr, .slice ir ids.length er] w fun e w' => e = .returned (.bool (decide (ids.length = S.length) && bZ L S ids ids.length)) ∧ Below w.heap.size w w' := by
 have hm6 := (bc hp).1
 have hn12 := (bm hk).1
 by_cases hl0 : ids.length ≠ S.length
 ·rw [decide_eq_false hl0, Bool.false_and]
  have h1 : ((ids.length : Int) == (S.length : Int)) = false := by simp; omega
  have h2 : ¬ (ids.length : Int) = (S.length : Int) := by omega
  clear hS hD hI
  generalize S.length = m at *
  generalize ids.length = k at *
  go_enter Tryz.func36, Tryz.ntmps36
  go_wp2_with fail
  go_ret
  exact ⟨rfl, Below.refl _ _⟩
 have hl : ids.length = S.length := Decidable.not_not.1 hl0
 clear hl0
 rw [decide_eq_true hl, Bool.true_and]
 have HWD : Hid (∀ j, j < S.length → ek (vA S j) = true) := yz (fun j hj => gn ((bc hp).2 j hj))
 have HSM : Hid (∀ n, eA L S ids n → ∀ i, i < n → ids.getD i 0 ≠ 0 → aH (atV L L.length (ids.getD i 0)).1 (atV L L.length (ids.getD i 0)).2.1 (atV L L.length (ids.getD i 0)).2.2 = true) := yz (fun n h => lU hk h)
 have HSZ : Hid (∀ id, du (atV L L.length id) = false → aH (atV L L.length id).1 (atV L L.length id).2.1 (atV L L.length id).2.2 = true) := yz (fun id h => iJ hk h)
 have cA := yz (fun (W : World) (q : Int) hW => gD L L.length q ar cr W (by omega) hW)
 have cF : Hid (∀ (k : Nat) (id : Int) (b i : Option Addr) (d e : Nat) (W : World), k ≤ 6 → aJ W ar L L.length → bi W b S (k + 1) → bF W i ids k → (∀ i, i ≤ k → ek (vA S i) = true) → aH (atV L L.length id).1 (atV L L.length id).2.1 (atV L L.length id).2.2 = true → (∀ i, i < k → ids.getD i 0 ≠ 0 → aH (atV L L.length (ids.getD i 0)).1 (atV L L.length (ids.getD i 0)).2.1 (atV L L.length (ids.getD i 0)).2.2 = true) → Calls Tryz.prog 71 #[.slice ar L.length cr, .slice b ((k : Nat) + 1) d, .slice i k e, .int .i64 id] W fun e w' => e = .returned (.bool (dt L S ids (vA S k, (id, atV L L.length id)) k)) ∧ Below W.heap.size W w') := yz (fun k id b i d e W h6 h1 h2 h3 h4 h5 h7 => jL L S ids k id ar b i cr d e W h6 hn12 h1 h2 h3 h4 h5 h7)
 have HNT : Hid (∀ n, eA L S ids n → bZ L S ids n = true) := yz (fun n h => pI h)
 have HSO : Hid (∀ i, aY L S ids i = (vA S i, (ids.getD i 0, atV L L.length (ids.getD i 0)))) := yz (fun i => rfl)
 have HNN : Hid (∀ n i, i < n → (decide (ids.getD i 0 = 0) || (!du (atV L L.length (ids.getD i 0)) && dt L S ids (aY L S ids i) i)) = false → bZ L S ids n = false) := yz (fun n i hi h => rl hi h)
 have HNS : Hid (∀ n, eA L S ids n → (decide (ids.getD n 0 = 0) || (!du (atV L L.length (ids.getD n 0)) && dt L S ids (aY L S ids n) n)) = true → eA L S ids (n + 1)) := yz (fun n h h1 => nF h h1)
 have HN0 := yz (nE L S ids)
 have HS := yz hS
 have HD := yz hD
 clear hS hD hk hp
 rw [← hl] at HWD HD hm6 hd
 rw [← hl]
 clear hl
 generalize eA L S ids = NT at *
 generalize L.length = n at *
 rcases hI with h0 | ⟨ib, io, rfl, hib, hic⟩
 ·rw [h0] at *
  have HY := yz (yy HNT 0 (yy HN0))
  go_enter Tryz.func36, Tryz.ntmps36
  go_wp2_with fail
  refine wp_loop_rounds 1 ?_
  rw [rounds_succ]
  go_wp2_with fail
  go_ret
  exact ⟨by rw [yy HY]; rfl, Below.refl _ _⟩
 have HI : Hid (bF w (some ⟨ib, io, none⟩) ids ids.length) := yz (.inr ⟨ib, io, rfl, hib, hic⟩)
 have HIC := yz hic
 clear hic
 generalize ids.length = k at *
 go_enter Tryz.func36, Tryz.ntmps36
 go_wp2_with fail
 go_loopw [7] (fun kk wr => ∃ i : Nat, i ≤ k ∧ kk = .int .i64 i ∧ Hid (NT i) ∧ Hid (Below w.heap.size w wr)) (fun kk _ => k - (intOf kk).toNat)
 case atStart => exact ⟨0, by omega, rfl, HN0, yz (Below.refl _ _)⟩
 case round =>
  obtain ⟨i, hi, rfl, HF, HB⟩ := hrel
  by_cases hik : i < k
  ·have hik2 : (i : Int) < (k : Int) := by omega
   have ci : wr.cell? ⟨ib, io + i, none⟩ = some (.int .i64 (ids.getD i 0)) := by rw [(yy HB).cell (p := ⟨ib, io + i, none⟩) hib]; exact yy HIC i hik
   have HNSi := yz (yy HNS i (yy HF))
   have HNNi := yz (yy HNN k i hik)
   rw [yy HSO i] at HNSi HNNi
   obtain ⟨x, hxi⟩ : ∃ x, ids.getD i 0 = x := ⟨_, rfl⟩
   rw [hxi] at ci HNSi HNNi
   clear hxi
   by_cases hx0 : x = 0
   ·subst hx0
    have HF2 := yz (yy HNSi rfl)
    go_wp2_with fail
    go_roundw
    case rel => exact ⟨i + 1, by omega, by go_num, HF2, HB⟩
    case measure => simp [intOf] <;> omega
   have hx0' : (x == 0) = false := by simp [hx0]
   rw [decide_eq_false hx0, Bool.false_or] at HNSi HNNi
   have cAx := yz (fun (W : World) hW => yy cA W x hW)
   have cFx := yz (fun (W : World) b i' d e h1 h2 h3 h4 => yy cF i x b i' d e W (by omega) h1 h2 h3 (fun j hj => yy HWD j (by omega)) h4 (yy HSM i (yy HF)))
   have HSX := yz (yy HSZ x)
   generalize dt L S ids (vA S i, (x, atV L n x)) i = fv at *
   generalize atV L n x = q at *
   obtain ⟨q1, q2, q3⟩ := q
   have HSX' : Hid (eqB q1 q2 q3 0 0 0 = false → aH q1 q2 q3 = true) := HSX
   have HNSi' : Hid ((!eqB q1 q2 q3 0 0 0 && fv) = true → NT (i + 1)) := HNSi
   have HNNi' : Hid ((!eqB q1 q2 q3 0 0 0 && fv) = false → bZ L S ids k = false) := HNNi
   clear HSX HNSi HNNi
   have heq := fun W => ko q1 q2 q3 0 0 0 W
   have Z := ak wr (.cells #[.int .i64 0, .int .i64 0, .int .i64 0] 67)
   have HB1 := yz (aj (yy HB) Z)
   have HZ1 := aA wr 0 0 0 67
   have ci2 := cu ci Z
   clear Z HB
   unfold mb at cAx
   simp only at cAx
   go_wp2_with fail
   clear ci
   generalize wr.alloc (.cells #[.int .i64 0, .int .i64 0, .int .i64 0] 67) = W1 at HB1 HZ1 ci2 ⊢
   generalize wr.heap.size = zb at *
   obtain ⟨z0, z1, z2⟩ := HZ1
   have r0 := cell_regrown z0
   have r1 := cell_regrown z1
   have r2 := cell_regrown z2
   have ri := cell_regrown ci2
   clear z0 z1 z2 ci2
   have HS1 := yz ((yy HS).kept (yy HB1))
   have HD1 := yz (((yy HD).less (show i + 1 ≤ k by omega)).kept (yy HB1))
   have HI1 := yz (((yy HI).less (show i ≤ k by omega)).kept (yy HB1))
   have hi1 : ((i : Int) + 1) ≤ (dr : Int) := by omega
   have hi2 : (i : Int) ≤ (er : Int) := by omega
   cases hz : eqB q1 q2 q3 0 0 0
   ·rw [hz] at heq HSX' HNSi' HNNi'
    have hsm := yy HSX' rfl
    have cFy := yz (fun (W : World) b i' d e h1 h2 h3 => yy cFx W b i' d e h1 h2 h3 hsm)
    refine wp_region_quiet_below (by kernel_rfl) (by kernel_rfl) ?_
    repeat (go_big_quiet_step (first | (with_reducible exact Calls.regrown_of (yy cAx _ ((yy HS1).kept (below_regrown _ _ _)))) | (with_reducible exact Calls.regrown_of (yy cFy _ _ _ _ _ ((yy HS1).kept (below_regrown _ _ _)) ((yy HD1).kept (below_regrown _ _ _)) ((yy HI1).kept (below_regrown _ _ _))))))
    refine wpQuiet_nil ?_
    intro _ hw'
    obtain ⟨⟨dq, osq⟩, hw''⟩ := hw'
    subst hw''
    have hx := aj (yy HB1) (below_regrown W1 dq osq)
    generalize grow (redrawn W1 dq) osq = W2 at hx ⊢
    have HB2 := yz hx
    clear hx r0 r1 r2 ri heq cAx cFx cFy HS1 HD1 HI1 HB1
    cases fv
    ·have HNO := yz (yy HNNi' rfl)
     go_wp2_with fail
     go_ret
     exact ⟨by rw [yy HNO]; rfl, yy HB2⟩
    ·have HF2 := yz (yy HNSi' rfl)
     go_wp2_with fail
     go_roundw
     case rel => exact ⟨i + 1, by omega, by go_num, HF2, HB2⟩
     case measure => simp [intOf] <;> omega
   ·rw [hz] at heq HNNi'
    have HNO := yz (yy HNNi' rfl)
    refine wp_region_quiet_below (by kernel_rfl) (by kernel_rfl) ?_
    repeat (go_big_quiet_step (first | (with_reducible exact Calls.regrown_of (yy cAx _ ((yy HS1).kept (below_regrown _ _ _))))))
    refine wpQuiet_nil ?_
    intro _ hw'
    obtain ⟨⟨dq, osq⟩, hw''⟩ := hw'
    subst hw''
    have hx := aj (yy HB1) (below_regrown W1 dq osq)
    generalize grow (redrawn W1 dq) osq = W2 at hx ⊢
    go_wp2_with fail
    go_ret
    exact ⟨by rw [yy HNO]; rfl, hx⟩
  ·have hik' : i = k := by omega
   subst hik'
   have HY := yz (yy HNT i (yy HF))
   go_wp2_with fail
   go_ret
   exact ⟨by rw [yy HY]; rfl, yy HB⟩
theorem st {L : List St} {S : List D3} {ids : List Int} (h1 : aL L = true) (h2 : aM S = true) : (decide (ids.length = S.length) && bZ L S ids ids.length) = aN L S ids := by
 unfold aN
 rw [h1, h2, gm]
 rfl
theorem pK {L : List St} {S : List D3} {ids : List Int} (h : 6 < ids.length) : aN L S ids = false := by
 cases h2 : aM S
 ·exact gH h2
 ·exact mG (by have := (bc h2).1; omega)
theorem il (L : List St) (S : List D3) (ids : List Int) (ar br ir : Option Addr) (cr dr er : Nat) (w : World) (hn : L.length ≤ 1048576) (hn2 : S.length ≤ 1048576) (hn3 : ids.length ≤ 1048576) (hd : S.length ≤ dr) (he : ids.length ≤ er) (hS : aJ w ar L L.length) (hD : bi w br S S.length) (hI : bF w ir ids ids.length) :
  Calls Tryz.prog 12 #[.slice ar L.length cr, .slice br S.length dr, .slice ir ids.length er] w fun e w' => e = .returned (.bool (aN L S ids)) ∧ Below w.heap.size w w' := by
 have cK := yz (fun (W : World) hW => dl L ar cr W hn hW)
 have cP := yz (fun (W : World) hW => bQ S br dr W hn2 hW)
 have cM : Hid (aL L = true → aM S = true → ∀ W : World, aJ W ar L L.length → bi W br S S.length → bF W ir ids ids.length → Calls Tryz.prog 36 #[.slice ar L.length cr, .slice br S.length dr, .slice ir ids.length er] W fun e w' => e = .returned (.bool (aN L S ids)) ∧ Below W.heap.size W w') := yz (fun hk hp W h1 h2 h3 => by
  rw [← st hk hp]
  exact nw L S ids ar br ir cr dr er W hk hp hn3 hd he h1 h2 h3)
 have H1 : Hid (aL L = false → aN L S ids = false) := yz jr
 have H2 : Hid (aM S = false → aN L S ids = false) := yz gH
 have H5 : Hid (400 < L.length → aN L S ids = false) := yz (fun h => jr (lA (by omega)))
 have H6 : Hid (400 < S.length → aN L S ids = false) := yz (fun h => gH (fM (by omega)))
 have H7 : Hid (400 < ids.length → aN L S ids = false) := yz (fun h => pK (by omega))
 have HS := yz hS
 have HD := yz hD
 have HI := yz hI
 clear hS hD hI
 generalize aN L S ids = R at *
 generalize S.length = m at *
 generalize ids.length = k at *
 generalize L.length = n at *
 by_cases hbn : 400 < n
 ·have hb' : decide ((n : Int) ≤ 400) = false := by simp; omega
  have hb2 : ¬ (n : Int) ≤ 400 := by omega
  obtain rfl := yy H5 hbn
  go_enter Tryz.func12, Tryz.ntmps12
  go_wp2_with fail
  go_ret
  exact ⟨rfl, Below.refl _ _⟩
 have hbn' : decide ((n : Int) ≤ 400) = true := by simp; omega
 have hbn2 : (n : Int) ≤ 400 := by omega
 by_cases hbm : 400 < m
 ·have hb' : decide ((m : Int) ≤ 400) = false := by simp; omega
  have hb2 : ¬ (m : Int) ≤ 400 := by omega
  obtain rfl := yy H6 hbm
  go_enter Tryz.func12, Tryz.ntmps12
  go_wp2_with fail
  go_ret
  exact ⟨rfl, Below.refl _ _⟩
 have hbm' : decide ((m : Int) ≤ 400) = true := by simp; omega
 have hbm2 : (m : Int) ≤ 400 := by omega
 by_cases hbk : 400 < k
 ·have hb' : decide ((k : Int) ≤ 400) = false := by simp; omega
  have hb2 : ¬ (k : Int) ≤ 400 := by omega
  obtain rfl := yy H7 hbk
  go_enter Tryz.func12, Tryz.ntmps12
  go_wp2_with fail
  go_ret
  exact ⟨rfl, Below.refl _ _⟩
 have hbk' : decide ((k : Int) ≤ 400) = true := by simp; omega
 have hbk2 : (k : Int) ≤ 400 := by omega
 go_enter Tryz.func12, Tryz.ntmps12
 go_wp2_with fail
 refine (yy cK _ (yy HS)).mono ?_
 rintro e W1 ⟨rfl, hx⟩
 have B1 := yz hx
 clear hx
 cases hk : aL L
 ·obtain rfl := yy H1 hk
  go_wp2_with fail
  go_ret
  exact ⟨rfl, yy B1⟩
 go_wp2_with fail
 refine (yy cP _ ((yy HD).kept (yy B1))).mono ?_
 rintro e W2 ⟨rfl, hx⟩
 have B2 := yz (aj (yy B1) hx)
 clear hx B1
 cases hp : aM S
 ·obtain rfl := yy H2 hp
  go_wp2_with fail
  go_ret
  exact ⟨rfl, yy B2⟩
 have cM' := yz (yy cM hk hp)
 clear hk hp cM cK cP H1 H2 H5 H6 H7
 go_wp2_with fail
 refine (yy cM' _ ((yy HS).kept (yy B2)) ((yy HD).kept (yy B2)) ((yy HI).kept (yy B2))).mono ?_
 rintro e W3 ⟨rfl, hx⟩
 go_wp2_with fail
 go_ret
 exact ⟨rfl, aj (yy B2) hx⟩
def iF (w : World) (b : Nat) (v0 v1 v2 : Value) (c m : Int) : Prop := w.cell? ⟨b, 0, none⟩ = some v0 ∧ w.cell? ⟨b, 1, none⟩ = some v1 ∧ w.cell? ⟨b, 2, none⟩ = some v2 ∧ w.cell? ⟨b, 3, none⟩ = some (.int .i64 c) ∧ w.cell? ⟨b, 4, none⟩ = some (.int .i64 m)
theorem aZ {w w' : World} {a : Addr} {v : Value} (h : w.cell? a = some v) (hB : Below w.heap.size w w') : w'.cell? a = some v := (hB.cell (World.block_lt_of_cell? w a h)).trans h
theorem ck {w w' : World} {a : Addr} {v : Value} {row : Option Nat} (h : w.cell? a = some v) (hg : w.grownBy w' row) (hne : some a.block ≠ row) : w'.cell? a = some v := (World.cell?_of_block (hg.block a.block (World.block_lt_of_cell? w a h) hne)).trans h
theorem iF.kept {w w' : World} {b : Nat} {v0 v1 v2 : Value} {c m : Int} (h : iF w b v0 v1 v2 c m) (hB : Below w.heap.size w w') : iF w' b v0 v1 v2 c m := ⟨aZ h.1 hB, aZ h.2.1 hB, aZ h.2.2.1 hB, aZ h.2.2.2.1 hB, aZ h.2.2.2.2 hB⟩
theorem iF.lt {w : World} {b : Nat} {v0 v1 v2 : Value} {c m : Int} (h : iF w b v0 v1 v2 c m) : b < w.heap.size := World.block_lt_of_cell? w _ h.1
def et (w : World) (b : Nat) : Prop := ∀ i, w.frozen? ⟨b, i, none⟩ = false
theorem et.kept {w w' : World} {b : Nat} (h : et w b) (hb : b < w.heap.size) (hB : Below w.heap.size w w') : et w' b := fun i => (hB.frozen (p := ⟨b, i, none⟩) hb).trans (h i)
theorem et.set {w : World} {b : Nat} (h : et w b) (p : Addr) (v : Value) : et (w.setCell p v) b := fun i => by rw [World.frozen?_setCell]; exact h i
def gY (w : World) (x : Nat) (ir : Option Addr) (ids : List Int) : Prop := (ids = [] ∧ ir = none) ∨ ∃ g, ir = some ⟨g, 0, none⟩ ∧ g ≠ x ∧ g < w.heap.size ∧ ∀ i, i < ids.length → w.cell? ⟨g, i, none⟩ = some (.int .i64 (ids.getD i 0))
theorem gY.nums {w : World} {x : Nat} {ir : Option Addr} {ids : List Int} (h : gY w x ir ids) : bF w ir ids ids.length := by
 rcases h with ⟨rfl, _⟩ | ⟨g, rfl, _, hl, hc⟩
 ·exact .inl rfl
 ·exact .inr ⟨g, 0, rfl, hl, fun i hi => by rw [Nat.zero_add]; exact hc i hi⟩
theorem gY.grown {w w' : World} {x : Nat} {ir : Option Addr} {ids : List Int} (h : gY w x ir ids) (hg : w.grownBy w' (some x)) : gY w' x ir ids := by
 rcases h with h | ⟨g, hi, hn, hl, hc⟩
 ·exact .inl h
 ·exact .inr ⟨g, hi, hn, Nat.lt_of_lt_of_le hl hg.size, fun i hi => ck (hc i hi) hg (fun e => hn (Option.some.inj e))⟩
def mS (a : Option Addr) (x : Nat) : Prop := ∀ y, a = some y → y.block ≠ x
theorem uq {w w' : World} {a : Option Addr} {L : List St} {n x : Nat} (h : aJ w a L n) (hg : w.grownBy w' (some x)) (hne : mS a x) : aJ w' a L n := by
 rcases h with h | ⟨b, o, rfl, hb, hc⟩
 ·exact .inl h
 ·refine .inr ⟨b, o, rfl, Nat.lt_of_lt_of_le hb hg.size, fun i hi => ?_⟩
  have hn : ∀ k, some (⟨b, k, none⟩ : Addr).block ≠ some x := fun k e => hne _ rfl (Option.some.inj e)
  obtain ⟨c0, c1, c2, c3⟩ := hc i hi
  exact ⟨ck c0 hg (hn _), ck c1 hg (hn _), ck c2 hg (hn _), ck c3 hg (hn _)⟩
theorem uu {w w' : World} {a : Option Addr} {L : List D3} {n x : Nat} (h : bi w a L n) (hg : w.grownBy w' (some x)) (hne : mS a x) : bi w' a L n := by
 rcases h with h | ⟨b, o, rfl, hb, hc⟩
 ·exact .inl h
 ·refine .inr ⟨b, o, rfl, Nat.lt_of_lt_of_le hb hg.size, fun i hi => ?_⟩
  have hn : ∀ k, some (⟨b, k, none⟩ : Addr).block ≠ some x := fun k e => hne _ rfl (Option.some.inj e)
  obtain ⟨c0, c1, c2⟩ := hc i hi
  exact ⟨ck c0 hg (hn _), ck c1 hg (hn _), ck c2 hg (hn _)⟩
structure fS (w : World) (x : Nat) (L : List St) (S : List D3) (ar br : Option Addr) (cr dr : Nat) (s : SeN) : Prop where
 cells : ∃ v, iF w x (.slice ar L.length cr) (.slice br S.length dr) v (s.count : Int) (s.many : Int) ∧ w.ownsRow (x + 1) 2 1 v s.best.length (bu s.best)
 free : et w x
 stars : aJ w ar L L.length
 dirs : bi w br S S.length
 apS : mS ar x
 apD : mS br x
theorem tu {w w' : World} {B n m : Nat} {t : TypeId} {v : Value} {xs : List Value} (h : w.ownsRow B t m v n xs) (hB : Below w.heap.size w w') : w'.ownsRow B t m v n xs := by
 obtain ⟨h1, h2⟩ := h
 refine ⟨h1, ?_⟩
 rcases h2 with h2 | ⟨g, c', cur, e, hg, hh, r⟩
 ·exact .inl h2
 ·exact .inr ⟨g, c', cur, e, hg, by rw [hB.block g (Array.getElem?_eq_some_iff.1 hh).1]; exact hh, r⟩
theorem kq {w : World} {x n m : Nat} {t : TypeId} {v : Value} {xs : List Value} (h : w.ownsRow (x + 1) t m v n xs) (o : Nat) (y : Value) : (w.setCell ⟨x, o, none⟩ y).ownsRow (x + 1) t m v n xs := by
 obtain ⟨h1, h2⟩ := h
 refine ⟨h1, ?_⟩
 rcases h2 with h2 | ⟨g, c', cur, e, hg, hh, r⟩
 ·exact .inl h2
 ·exact .inr ⟨g, c', cur, e, hg, by rw [Below.heap_setCell w ⟨x, o, none⟩ y g (by show g ≠ x; omega)]; exact hh, r⟩
theorem bD {w w' : World} {x : Nat} (h : Below w.heap.size w w') : w.grownBy w' (some x) := ⟨h.os, h.tape, h.output, h.size, fun k hk _ => h.block k hk⟩
theorem fS.kept {w w' : World} {x : Nat} {L : List St} {S : List D3} {ar br : Option Addr} {cr dr : Nat} {s : SeN} (h : fS w x L S ar br cr dr s) (hB : Below w.heap.size w w') : fS w' x L S ar br cr dr s := by
 obtain ⟨⟨v, h1, h2⟩, hf, hs, hd, a1, a2⟩ := h
 exact ⟨⟨v, h1.kept hB, tu h2 hB⟩, hf.kept h1.lt hB, hs.kept hB, hd.kept hB, a1, a2⟩
def bs (L : List St) (S : List D3) (ids : List Int) (a : Int) : Bool := dt L S ids (vA S ids.length, (a, atV L L.length a)) ids.length
def nR (L : List St) (ids : List Int) : Prop := ∀ i, i < ids.length → ids.getD i 0 ≠ 0 → aH (atV L L.length (ids.getD i 0)).1 (atV L L.length (ids.getD i 0)).2.1 (atV L L.length (ids.getD i 0)).2.2 = true
def rL (L : List St) (S : List D3) (ar br : Option Addr) (cr dr x r : Nat) : Prop := ∀ (ids : List Int) (s : SeN) (ir : Option Addr) (er : Nat) (w : World), ids.length + r = S.length → nR L ids → s.many + 13 ^ r ≤ 100000000 → s.count ≤ 6 → (ir = none → er = 0) → gY w x ir ids → fS w x L S ar br cr dr s →
  Calls Tryz.prog 66 #[.pointer (some ⟨x, 0, none⟩), .slice ir ids.length er, .int .i64 (aD ids : Int)] w fun e w' => (∃ v, e = .returned v) ∧ fS w' x L S ar br cr dr (cy (bs L S) (L.map (·.1)) r ids s) ∧ w.grownBy w' (some x)
theorem kT (L : List St) (S : List D3) (ar br : Option Addr) (cr dr x r : Nat) (hm6 : S.length ≤ 6) (ids : List Int) (s : SeN) (ir : Option Addr) (er : Nat) (w : World) (hl : ids.length + r = S.length) (hc6 : s.count ≤ 6) (hst : fS w x L S ar br cr dr s) (hp : aD ids + r < s.count) :
  Calls Tryz.prog 66 #[.pointer (some ⟨x, 0, none⟩), .slice ir ids.length er, .int .i64 (aD ids : Int)] w fun e w' => (∃ v, e = .returned v) ∧ fS w' x L S ar br cr dr (cy (bs L S) (L.map (·.1)) r ids s) ∧ w.grownBy w' (some x) := by
 have HS := yz hst
 have HF := yz (oz (F := bs L S) (A := L.map (·.1)) hp)
 obtain ⟨⟨v, h1, h2⟩, hf, hs, hd, a1, a2⟩ := hst
 obtain ⟨c0, c1, c2, c3, c4⟩ := h1
 have r1 := cell_regrown c1
 have r3 := cell_regrown c3
 have hc := eY ids
 generalize aD ids = cn at *
 generalize ids.length = k at *
 generalize S.length = m at *
 clear h2 hf hs hd a1 a2 c0 c1 c2 c3 c4
 have hq : (cn : Int) + (m : Int) - (k : Int) < (s.count : Int) := by omega
 go_enter Tryz.func66, Tryz.ntmps66
 go_wp2_with fail
 refine wp_region_quiet_below (by kernel_rfl) (by kernel_rfl) ?_
 repeat (go_big_quiet_step (fail))
 refine wpQuiet_nil ?_
 intro _ hw'
 obtain ⟨⟨dq, osq⟩, hw''⟩ := hw'
 subst hw''
 have hx := below_regrown w dq osq
 go_wp2_with fail
 refine bodyPost_ret (results_none rfl _ _ _) rfl ?_
 exact ⟨⟨_, rfl⟩, by rw [yy HF]; exact (yy HS).kept hx, bD hx⟩
theorem ki {P : Program} (w : World) (t ty e : TypeId) (i : TypeInfo) (ht : P.underlying t = some (.slice e)) (hi : P.info? e = some i) (g : Nat) :
  (Builtin.append_ #[t, t] ty #[.slice (some ⟨g, 0, none⟩) 0 0, .slice none 0 0]).run P w = .ok (.slice (some ⟨g, 0, none⟩) 0 0) w := by
 simp [Builtin.append_, run_underlying ht, sizeOf, typeInfo, hi, Builtin.lenOf, Builtin.firstCells, loadCells, loadCellsFrom, storeCells]
theorem tl {w : World} {g : Nat} {ids : List Int} (hc : ∀ i, i < ids.length → w.cell? ⟨g, i, none⟩ = some (.int .i64 (ids.getD i 0))) (j : Nat) (u : Value) (hj : (bu ids)[j]? = some u) : w.cell? ((⟨g, 0, none⟩ : Addr).add j) = some u := by
 have hA : (⟨g, 0, none⟩ : Addr).add j = ⟨g, 0 + j, none⟩ := by unfold Addr.add; split <;> simp_all
 unfold bu at hj
 rw [List.getElem?_map] at hj
 have hlt : j < ids.length := by
  rcases Nat.lt_or_ge j ids.length with h | h
  ·exact h
  ·rw [List.getElem?_eq_none h] at hj; cases hj
 rw [hA, Nat.zero_add, hc j hlt]
 rw [List.getElem?_eq_getElem hlt] at hj
 rw [List.getD_eq_getElem?_getD, List.getElem?_eq_getElem hlt]
 exact hj
theorem sk (ids : List Int) : (bu ids).length = ids.length := by unfold bu; rw [List.length_map]
theorem dV (w : World) {ops : Array Oper} {rest : List Oper} {o : Oper} {a : Act} {Q : Exit → Act → World → Prop} (hgd : o.guard = none) (s x : Operand)
  (ho : o.op = .call { callee := .builtin .append, args := #[s, x], argTypes := #[27, 27] })
  (base g : Nat) (hs : a.eval s = .slice (some ⟨g, 0, none⟩) 0 0) (hown : w.ownsRow base 2 1 (.slice (some ⟨g, 0, none⟩) 0 0) 0 []) (y : Nat) (ir : Option Addr) (er : Nat) (ids : List Int) (hx : a.eval x = .slice ir ids.length er) (he : ir = none → er = 0) (hI : gY w y ir ids) (hk : ids.length ≤ 6) (hbase : base ≤ w.heap.size)
  (h : ∀ v' w', w'.ownsRow base 2 1 v' ids.length (bu ids) → w.grownBy w' (some g) → wpList Tryz.prog ops Q rest (a.put o.dst v') w') : wpList Tryz.prog ops Q (o :: rest) a w := by
 obtain ⟨i0, hinf, hz0, hz1, hz2⟩ := info_parts eQ
 rcases hI with ⟨rfl, rfl⟩ | ⟨b, rfl, _, hl, hc⟩
 ·obtain rfl := he rfl
  have hr := ki (P := Tryz.prog) w 27 o.type 2 i0 Tryz.underlying27 hinf g
  refine wpList_plain hgd fun _ hK => ?_
  unfold Oper.wp execOp
  simp only [List.length_nil] at hx
  simp only [ho, resolve, invoke, builtin, Sem.run_bind, Sem.run_pure, Result.andThen_ok, List.map_toArray, List.map_cons, List.map_nil, hs, hx, hr]
  exact hK _ _ (h _ _ hown ⟨rfl, rfl, rfl, Nat.le_refl _, fun _ _ _ => rfl⟩)
 ·have hm : 6 ≤ maxLen := by decide +kernel
  refine wpList_append_own w hgd s x 27 ho base 2 i0 (.int .i64 0) 1 8 Tryz.underlying27 hinf hz0 hz1 hz2 rfl (by decide) _ 0 [] hs hown ⟨b, 0, none⟩ ids.length er (bu ids) hx (by rw [sk, Nat.mul_one]) (tl hc) (fun u hu => dX hu) (by omega) (by omega) hbase ?_
  intro v' w' h2 h3 _
  rw [Nat.zero_add, List.nil_append] at h2
  exact h v' w' h2 h3
theorem dQ {w : World} {B n m : Nat} {t : TypeId} {v : Value} {xs : List Value} (h : w.ownsRow B t m v n xs) : ∃ a cap, v = .slice a n cap := by
 rcases h.2 with ⟨h1, h0⟩ | ⟨g, c', cur, e, _⟩
 ·exact ⟨none, 0, by rw [h1, h0]⟩
 ·exact ⟨_, _, e⟩
theorem mA {w w1 : World} {x : Nat} (h : w.grownBy w1 (some x)) (o : Nat) (y : Value) : w.grownBy (w1.setCell ⟨x, o, none⟩ y) (some x) := gd h o y
theorem qt {w w1 : World} {x : Nat} (h : w.grownBy w1 (some x)) (o : Obj) : w.grownBy (w1.alloc o) (some x) := ⟨h.os, h.tape, h.output, Nat.le_trans h.size (by simp), fun k hk hn => (Below.heap_alloc w1 o k (Nat.lt_of_lt_of_le hk h.size)).trans (h.block k hk hn)⟩
theorem tP {w w1 w2 : World} {x g : Nat} (h : w.grownBy w1 (some x)) (hg : w1.grownBy w2 (some g)) (hb : w.heap.size ≤ g) : w.grownBy w2 (some x) := ⟨hg.os.trans h.os, hg.tape.trans h.tape, hg.output.trans h.output, Nat.le_trans h.size hg.size, fun k hk hn => (hg.block k (Nat.lt_of_lt_of_le hk h.size) (fun e => by have := Option.some.inj e; omega)).trans (h.block k hk hn)⟩
theorem fb {w w1 w2 : World} {x : Nat} (h : w.grownBy w1 (some x)) (hg : w1.grownBy w2 (some x)) : w.grownBy w2 (some x) := ⟨hg.os.trans h.os, hg.tape.trans h.tape, hg.output.trans h.output, Nat.le_trans h.size hg.size, fun k hk hn => (hg.block k (Nat.lt_of_lt_of_le hk h.size) hn).trans (h.block k hk hn)⟩
theorem iF.grown {w w' : World} {b : Nat} {v0 v1 v2 : Value} {c m : Int} {row : Option Nat} (h : iF w b v0 v1 v2 c m) (hg : w.grownBy w' row) (hne : some b ≠ row) : iF w' b v0 v1 v2 c m := ⟨ck h.1 hg hne, ck h.2.1 hg hne, ck h.2.2.1 hg hne, ck h.2.2.2.1 hg hne, ck h.2.2.2.2 hg hne⟩
theorem et.grown {w w' : World} {b : Nat} {row : Option Nat} (h : et w b) (hb : b < w.heap.size) (hg : w.grownBy w' row) (hne : some b ≠ row) : et w' b := fun i => by
 have h1 := h i
 unfold World.frozen? at h1 ⊢
 rw [hg.block b hb hne]
 exact h1
theorem tD {w : World} {b : Nat} {v0 v1 v2 : Value} {c m : Int} (h : iF w b v0 v1 v2 c m) (c' m' : Int) : iF ((w.setCell ⟨b, 3, none⟩ (.int .i64 c')).setCell ⟨b, 4, none⟩ (.int .i64 m')) b v0 v1 v2 c' m' := by
 obtain ⟨h0, h1, h2, h3, h4⟩ := h
 refine ⟨?_, ?_, ?_, ?_, ?_⟩ <;> simp [go_sem, h0, h1, h2, h3, h4]
theorem qC {w : World} {b : Nat} {v0 v1 v2 : Value} {c m : Int} (h : iF w b v0 v1 v2 c m) (v' : Value) (m' : Int) : iF ((w.setCell ⟨b, 2, none⟩ v').setCell ⟨b, 4, none⟩ (.int .i64 m')) b v0 v1 v' c m' := by
 obtain ⟨h0, h1, h2, h3, h4⟩ := h
 refine ⟨?_, ?_, ?_, ?_, ?_⟩ <;> simp [go_sem, h0, h1, h2, h3, h4]
theorem qD {w w' : World} {x : Nat} {L : List St} {S : List D3} {ar br : Option Addr} {cr dr : Nat} {s s' : SeN} {v' : Value} (h : fS w x L S ar br cr dr s) (hg : w.grownBy w' (some x)) (hc : iF w' x (.slice ar L.length cr) (.slice br S.length dr) v' (s'.count : Int) (s'.many : Int)) (ho : w'.ownsRow (x + 1) 2 1 v' s'.best.length (bu s'.best)) (hf : et w' x) : fS w' x L S ar br cr dr s' :=
 ⟨⟨v', hc, ho⟩, hf, uq h.stars hg h.apS, uu h.dirs hg h.apD, h.apS, h.apD⟩
theorem qV (L : List St) (S : List D3) (ar br : Option Addr) (cr dr x : Nat) (hm6 : S.length ≤ 6) (ids : List Int) (s : SeN) (ir : Option Addr) (er : Nat) (w : World) (hl : ids.length + 0 = S.length) (hmany : s.many + 1 ≤ 100000000) (hc6 : s.count ≤ 6) (he : ir = none → er = 0) (hI : gY w x ir ids) (hst : fS w x L S ar br cr dr s) (hp : ¬ aD ids + 0 < s.count) :
  Calls Tryz.prog 66 #[.pointer (some ⟨x, 0, none⟩), .slice ir ids.length er, .int .i64 (aD ids : Int)] w fun e w' => (∃ v, e = .returned v) ∧ fS w' x L S ar br cr dr (cy (bs L S) (L.map (·.1)) 0 ids s) ∧ w.grownBy w' (some x) := by
 obtain ⟨bst, ct, mn⟩ := s
 dsimp only at hmany hc6 hp
 have HS := yz hst
 have HI := yz hI
 have HF := yz (py (F := bs L S) (A := L.map (·.1)) (s := ⟨bst, ct, mn⟩) hp)
 obtain ⟨⟨v, h1, h2⟩, hf, hs, hd, a1, a2⟩ := hst
 dsimp only at h1
 obtain ⟨c0, c1, c2, c3, c4⟩ := h1
 have r1 := cell_regrown c1
 have r3 := cell_regrown c3
 have hc := eY ids
 obtain ⟨cn, hcn⟩ : ∃ cn, aD ids = cn := ⟨_, rfl⟩
 have HCN := yz hcn
 rw [hcn] at hp hc ⊢
 clear hcn
 by_cases hgt : ct < cn
 ·have hk6 : ids.length ≤ 6 := by omega
  have HE := yz he
  have HKM : Hid (S.length = ids.length) := yz (by omega)
  clear h2 hf hs hd a1 a2 c0 c1 c2 c3 c4 hI he
  rw [yy HKM] at r1
  have hq : ¬ (cn : Int) < (ct : Int) := by omega
  go_enter Tryz.func66, Tryz.ntmps66
  go_wp2_with fail
  refine wp_region_quiet_below (by kernel_rfl) (by kernel_rfl) ?_
  repeat (go_big_quiet_step (fail))
  refine wpQuiet_nil ?_
  intro _ hw'
  obtain ⟨⟨dq, osq⟩, hw''⟩ := hw'
  subst hw''
  have hx := below_regrown w dq osq
  generalize grow (redrawn w dq) osq = w1 at hx ⊢
  have S1 := yz ((yy HS).kept hx)
  have I1 := yz ((yy HI).grown (bD hx))
  have B1 := yz hx
  clear hx r1 r3 HS HI hq
  obtain ⟨⟨v, h1, h2⟩, hf, hs, hd, a1, a2⟩ := yy S1
  dsimp only at h1
  have H1 := yz h1
  have HFr := yz hf
  have hxl := h1.lt
  obtain ⟨c0, c1, c2, c3, c4⟩ := h1
  rw [yy HKM] at c1
  have f2 := hf 2
  have f3 := hf 3
  have f4 := hf 4
  clear hf hs hd a1 a2 h2
  have hgt' : (ct : Int) < (cn : Int) := by omega
  have HO : Hid (bU ⟨bst, ct, mn⟩ ids = ⟨ids, cn, 1⟩) := yz (by unfold bU; rw [yy HCN, if_pos hgt])
  have hz : ((w1.setCell ⟨x, 3, none⟩ (.int .i64 (cn : Int))).setCell ⟨x, 4, none⟩ (.int .i64 0)).heap.size = w1.heap.size := by simp
  have HN : Hid ((((w1.setCell ⟨x, 3, none⟩ (.int .i64 (cn : Int))).setCell ⟨x, 4, none⟩ (.int .i64 0)).alloc (.cells #[] 2)).ownsRow (x + 1) 2 1 (.slice (some ⟨w1.heap.size, 0, none⟩) 0 0) 0 []) := yz (by have := dY ((w1.setCell ⟨x, 3, none⟩ (.int .i64 (cn : Int))).setCell ⟨x, 4, none⟩ (.int .i64 0)) (x + 1) (by omega); rw [hz] at this; exact this)
  have HG2 : Hid (w1.grownBy (((w1.setCell ⟨x, 3, none⟩ (.int .i64 (cn : Int))).setCell ⟨x, 4, none⟩ (.int .i64 0)).alloc (.cells #[] 2)) (some x)) := yz (qt (mA (mA (eG w1 (some x)) _ _) _ _) _)
  have I2 := yz ((yy I1).grown (yy HG2))
  have A2 := yz ((tD (yy H1) (cn : Int) 0).kept (ak _ (.cells #[] 2)))
  have F2 := yz ((((yy HFr).set ⟨x, 3, none⟩ (.int .i64 (cn : Int))).set ⟨x, 4, none⟩ (.int .i64 0)).kept (by omega) (ak _ (.cells #[] 2)))
  go_wp2_with (at_builtin; refine dV _ rfl _ _ rfl (x + 1) w1.heap.size rfl (yy HN) x ir er ids rfl (yy HE) (yy I2) hk6 ?d1 ?_)
  case d1 => simp; omega
  intro v' w3 ho hg
  obtain ⟨av, cv, rfl⟩ := dQ ho
  have A3 := yz ((yy A2).grown hg (fun e => by have := Option.some.inj e; omega))
  have F3 := yz ((yy F2).grown (yy A2).lt hg (fun e => by have := Option.some.inj e; omega))
  have G3 := yz (tP (yy HG2) hg (Nat.le_refl _))
  have O3 := yz ho
  clear ho hg c0 c1 c2 c3 c4 f2 f3 f4 HN HG2 I2 A2 F2 hz
  obtain ⟨c0, c1, c2, c3, c4⟩ := yy A3
  have f2 := yy F3 2
  have f4 := yy F3 4
  go_wp2_with fail
  refine bodyPost_ret (results_none rfl _ _ _) rfl ?_
  have G4 := mA (mA (yy G3) 2 (.slice av ids.length cv)) 4 (.int .i64 1)
  refine ⟨⟨_, rfl⟩, ?_, fb (bD (yy B1)) G4⟩
  rw [yy HF, yy HO]
  exact qD (yy S1) G4 (qC (yy A3) (.slice av ids.length cv) 1) (kq (kq (yy O3) _ _) _ _) (((yy F3).set _ _).set _ _)
 ·obtain rfl : cn = ct := by omega
  have HO : Hid (bU ⟨bst, cn, mn⟩ ids = ⟨ids, cn, mn + 1⟩) := yz (by unfold bU; dsimp only; rw [yy HCN, if_neg hgt, if_pos rfl])
  have HMN := yz (show (mn : Int) + 1 ≤ 100000000 by omega)
  clear hgt hp hmany
  have hk6 : ids.length ≤ 6 := by omega
  have HE := yz he
  have HKM : Hid (S.length = ids.length) := yz (by omega)
  clear h2 hf hs hd a1 a2 c0 c1 c2 c3 c4 hI he
  rw [yy HKM] at r1
  go_enter Tryz.func66, Tryz.ntmps66
  go_wp2_with fail
  refine wp_region_quiet_below (by kernel_rfl) (by kernel_rfl) ?_
  repeat (go_big_quiet_step (fail))
  refine wpQuiet_nil ?_
  intro _ hw'
  obtain ⟨⟨dq, osq⟩, hw''⟩ := hw'
  subst hw''
  have hx := below_regrown w dq osq
  generalize grow (redrawn w dq) osq = w1 at hx ⊢
  have S1 := yz ((yy HS).kept hx)
  have I1 := yz ((yy HI).grown (bD hx))
  have B1 := yz hx
  clear hx r1 r3 HS HI
  obtain ⟨⟨v, h1, h2⟩, hf, hs, hd, a1, a2⟩ := yy S1
  dsimp only at h1
  have H1 := yz h1
  have HFr := yz hf
  have hxl := h1.lt
  obtain ⟨c0, c1, c2, c3, c4⟩ := h1
  rw [yy HKM] at c1
  have f2 := hf 2
  have f3 := hf 3
  have f4 := hf 4
  clear hf hs hd a1 a2 h2
  have HN : Hid ((w1.alloc (.cells #[] 2)).ownsRow (x + 1) 2 1 (.slice (some ⟨w1.heap.size, 0, none⟩) 0 0) 0 []) := yz (dY w1 (x + 1) (by omega))
  have HG2 : Hid (w1.grownBy (w1.alloc (.cells #[] 2)) (some x)) := yz (qt (eG w1 (some x)) _)
  have I2 := yz ((yy I1).grown (yy HG2))
  have A2 := yz ((yy H1).kept (ak _ (.cells #[] 2)))
  have F2 := yz ((yy HFr).kept hxl (ak _ (.cells #[] 2)))
  go_wp2_with (at_builtin; refine dV _ rfl _ _ rfl (x + 1) w1.heap.size rfl (yy HN) x ir er ids rfl (yy HE) (yy I2) hk6 ?d1 ?_)
  case d1 => simp; omega
  intro v' w3 ho hg
  obtain ⟨av, cv, rfl⟩ := dQ ho
  have A3 := yz ((yy A2).grown hg (fun e => by have := Option.some.inj e; omega))
  have F3 := yz ((yy F2).grown (yy A2).lt hg (fun e => by have := Option.some.inj e; omega))
  have G3 := yz (tP (yy HG2) hg (Nat.le_refl _))
  have O3 := yz ho
  clear ho hg c0 c1 c2 c3 c4 f2 f3 f4 HN HG2 I2 A2 F2
  obtain ⟨c0, c1, c2, c3, c4⟩ := yy A3
  have hmn := yy HMN
  have hmn0 : (0 : Int) ≤ (mn : Int) := by omega
  generalize hmi : (mn : Int) = mi at *
  have f2 := yy F3 2
  have f4 := yy F3 4
  go_wp2_with fail
  subst hmi
  refine bodyPost_ret (results_none rfl _ _ _) rfl ?_
  have G4 := mA (mA (yy G3) 2 (.slice av ids.length cv)) 4 (.int .i64 ((mn : Int) + 1))
  refine ⟨⟨_, rfl⟩, ?_, fb (bD (yy B1)) G4⟩
  rw [yy HF, yy HO]
  exact qD (yy S1) G4 (qC (yy A3) (.slice av ids.length cv) ((mn : Int) + 1)) (kq (kq (yy O3) _ _) _ _) (((yy F3).set _ _).set _ _)
theorem rj (ids : List Int) (a : Int) : bu ids ++ [.int .i64 a] = bu (ids ++ [a]) := by unfold bu; rw [List.map_append]; rfl
theorem qw {w : World} {B x cap : Nat} {a : Option Addr} {ids : List Int} (h : w.ownsRow B 2 1 (.slice a ids.length cap) ids.length (bu ids)) (hx : x < B) : gY w x a ids := by
 rcases h.2 with ⟨h1, h0⟩ | ⟨g, c', cur, e, hb, hg, hnc, hcm, hcs, htake⟩
 ·injection h1 with h1
  exact .inl ⟨List.eq_nil_of_length_eq_zero h0, h1⟩
 ·injection e with e1
  refine .inr ⟨g, e1, by omega, (Array.getElem?_eq_some_iff.1 hg).1, fun i hi => ?_⟩
  rw [cell_of_row w g i cur _ _ hg]
  have e4 : cur[i]? = (bu ids)[i]? := by
   rw [← htake, List.getElem?_take, if_pos (by omega)]
   simp
  rw [e4]
  unfold bu
  rw [List.getElem?_map, List.getElem?_eq_getElem hi, List.getD_eq_getElem?_getD, List.getElem?_eq_getElem hi]
  rfl
theorem oU {w : World} {B n cap : Nat} {a : Option Addr} {xs : List Value} (h : w.ownsRow B 2 1 (.slice a n cap) n xs) (ha : a = none) : cap = 0 := by
 rcases h.2 with ⟨h1, h0⟩ | ⟨g, c', cur, e, _⟩
 ·injection h1
 ·injection e with e1; rw [ha] at e1; cases e1
theorem sF {w : World} {B n : Nat} {v : Value} {xs : List Value} (h : w.ownsRow B 2 1 v n xs) (g : Nat) (e : v.ownBlock = some g) : B ≤ g := by
 rcases h.2 with ⟨h1, _⟩ | ⟨g', c', cur, e', hb, _⟩
 ·rw [h1] at e; cases e
 ·rw [e'] at e; simp [Value.ownBlock] at e; omega
theorem gw (w : World) {ops : Array Oper} {rest : List Oper} {o : Oper} {a : Act} {Q : Exit → Act → World → Prop} (hgd : o.guard = none) (s x : Operand)
  (ho : o.op = .call { callee := .builtin .append, args := #[s, x], argTypes := #[27, 27] })
  (base : Nat) (v : Value) (ids : List Int) (hs : a.eval s = v) (hown : w.ownsRow base 2 1 v ids.length (bu ids)) (g : Nat) (z : Int) (hx : a.eval x = .slice (some ⟨g, 0, none⟩) 1 1) (hc : w.cell? ⟨g, 0, none⟩ = some (.int .i64 z)) (hk : ids.length ≤ 6) (hbase : base ≤ w.heap.size)
  (h : ∀ v' w', w'.ownsRow base 2 1 v' (ids ++ [z]).length (bu (ids ++ [z])) → w.grownBy w' v.ownBlock → wpList Tryz.prog ops Q rest (a.put o.dst v') w') : wpList Tryz.prog ops Q (o :: rest) a w := by
 obtain ⟨i0, hinf, hz0, hz1, hz2⟩ := info_parts eQ
 have hm : 7 ≤ maxLen := by decide +kernel
 refine wpList_append_own w hgd s x 27 ho base 2 i0 (.int .i64 0) 1 8 Tryz.underlying27 hinf hz0 hz1 hz2 rfl (by decide) v ids.length (bu ids) hs hown ⟨g, 0, none⟩ 1 1 [.int .i64 z] hx rfl ?_ (fun u hu => by rw [List.mem_singleton.1 hu]; rfl) (by omega) (by omega) hbase ?_
 ·intro j u hj
  match j, hj with
  | 0, hj =>
   obtain rfl : Value.int .i64 z = u := by simpa using hj
   have hA : (⟨g, 0, none⟩ : Addr).add 0 = ⟨g, 0, none⟩ := by unfold Addr.add; split <;> simp_all
   rw [hA]
   exact hc
  | j + 1, hj => simp at hj
 ·intro v' w' h2 h3 _
  rw [rj] at h2
  exact h v' w' (by rw [List.length_append]; exact h2) h3
theorem lB {L : List St} {ids : List Int} {a : Int} (h : nR L ids) (ha : a ≠ 0 → aH (atV L L.length a).1 (atV L L.length a).2.1 (atV L L.length a).2.2 = true) : nR L (ids ++ [a]) := by
 intro i hi h0
 rw [List.length_append, List.length_singleton] at hi
 by_cases e : i < ids.length
 ·have e1 : (ids ++ [a]).getD i 0 = ids.getD i 0 := by rw [List.getD_eq_getElem?_getD, List.getD_eq_getElem?_getD, List.getElem?_append_left e]
  rw [e1] at h0 ⊢
  exact h i e h0
 ·have e1 : (ids ++ [a]).getD i 0 = a := by
   rw [List.getD_eq_getElem?_getD, List.getElem?_append_right (by omega), show i - ids.length = 0 by omega]
   rfl
  rw [e1] at h0 ⊢
  exact ha h0
theorem px (F : List Int → Int → Bool) (A : List Int) : ∀ (r : Nat) (ids : List Int) (s : SeN), s.count ≤ 6 → ids.length + r ≤ 6 → (cy F A r ids s).count ≤ 6 := by
 intro r ids s h1 h2
 rw [gb]
 have hall : ∀ l ∈ cg F A r ids, aD l ≤ 6 := fun l hl => by have := fV F A r ids l hl; have := eY ids; omega
 generalize cg F A r ids = M at hall
 induction M generalizing s with
 | nil => exact h1
 | cons l M ih =>
  rw [List.foldl_cons]
  refine ih (bU s l) ?_ (fun x hx => hall x (by simp [hx]))
  have h3 := nX s l
  have h4 := hall l (by simp)
  omega
theorem lf (F : List Int → Int → Bool) (A : List Int) (r : Nat) (ids : List Int) (s : SeN) (h1 : s.count ≤ 6) (h2 : ids.length + 1 + r ≤ 6) : ∀ i, i ≤ A.length → (dA F A r ids s i).count ≤ 6
 | 0, _ => h1
 | i + 1, h => by
  rw [fI F A r ids s (by omega)]
  have h3 := lf F A r ids s h1 h2 i (by omega)
  split
  ·exact px F A r _ _ h3 (by rw [List.length_append, List.length_singleton]; omega)
  ·exact h3
end
end Go.Proofs.YtoakkmjcbnfljaaGreatDoor
