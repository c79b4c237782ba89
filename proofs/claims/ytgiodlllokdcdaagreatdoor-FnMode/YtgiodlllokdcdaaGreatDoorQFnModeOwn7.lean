/- Several texts in one: NaD, NaE, IeA, IeB, IeC, IeD. -/
import Derived.Test.YtgiodlllokdcdaaGreatDoorQFnModeOwn6
import Derived.Test.YtgiodlllokdcdaaGreatDoorQFnModeOwn2
import Derived.Test.YtgiodlllokdcdaaGreatDoorQFnModeOwn4
import Derived.Test.YtgiodlllokdcdaaGreatDoorQFnModeOwn5
namespace Go.Proofs.YtgiodlllokdcdaaGreatDoor
set_option linter.unusedVariables false
set_option linter.unusedSimpArgs false
set_option maxRecDepth 100000
set_option maxHeartbeats 8000000
section
open Go.RowKit Go.Sort
theorem rZ {p q r : D3} (hp : ay p.1 p.2.1 p.2.2 = true) (hq : ay q.1 q.2.1 q.2.2 = true) (hr : ay r.1 r.2.1 r.2.2 = true) :
  mH p q r = bt (crW p.2.1 p.2.2 q.2.1 q.2.2) (crW p.2.2 p.1 q.2.2 q.1) (crW p.1 p.2.1 q.1 q.2.1) r.1 r.2.1 r.2.2 := by
 unfold mH mI
 rw [hp, hq, hr]
 rfl
theorem ni (p q r : D3) (hp : ay p.1 p.2.1 p.2.2 = true) (hq : ay q.1 q.2.1 q.2.2 = true) (hr : ay r.1 r.2.1 r.2.2 = true) : ∃ (x1 x2 x3 d : Int),
  Hid (∀ W : World, Calls Tryz.prog 98 #[.agg #[.int .i64 p.1, .int .i64 p.2.1, .int .i64 p.2.2], .agg #[.int .i64 q.1, .int .i64 q.2.1, .int .i64 q.2.2]] W fun e w' => e = .returned (.agg #[.int .i64 x1, .int .i64 x2, .int .i64 x3]) ∧ Below W.heap.size W w')
  ∧ Hid (∀ W : World, Calls Tryz.prog 99 #[.agg #[.int .i64 x1, .int .i64 x2, .int .i64 x3], .agg #[.int .i64 r.1, .int .i64 r.2.1, .int .i64 r.2.2]] W fun e w' => e = .returned (.int .i64 d) ∧ Below W.heap.size W w')
  ∧ Hid (∀ W : World, Calls Tryz.prog 127 #[.int .i64 d] W fun e w' => e = .returned (.int .i64 (eS (mH p q r) 0)) ∧ Below W.heap.size W w') := by
 refine ⟨_, _, _, _, yz (fun W => jr _ _ _ _ _ _ W), yz (fun W => eF _ _ _ _ _ _ W), yz (fun W => (dl _ W).mono fun e w' h => ?_)⟩
 obtain ⟨he, hw⟩ := h
 refine ⟨?_, by rw [hw]; exact Below.refl _ _⟩
 rw [he, rZ hp hq hr]
 rfl
theorem tq (p q r s : D3) (hp : fX p = true) (hq : fX q = true) (hr : aL r.1 r.2.1 r.2.2 = true) (hs : aL s.1 s.2.1 s.2.2 = true) (W : World) :
  Calls Tryz.prog 126 #[.agg #[.int .i64 p.1, .int .i64 p.2.1, .int .i64 p.2.2], .agg #[.int .i64 q.1, .int .i64 q.2.1, .int .i64 q.2.2], .agg #[.int .i64 r.1, .int .i64 r.2.1, .int .i64 r.2.2], .agg #[.int .i64 s.1, .int .i64 s.2.1, .int .i64 s.2.2]] W fun e w' => e = .returned (.int .i64 (jQ p.1 p.2.1 p.2.2 q.1 q.2.1 q.2.2 r.1 r.2.1 r.2.2 s.1 s.2.1 s.2.2)) ∧ Below W.heap.size W w' := by
 rw [up hp hq hr hs]
 exact qI _ _ _ _ _ _ _ _ _ _ _ _ W
def fG (L : List St) (S : List D3) (ids : List Int) (s : Sg) (i : Nat) : Bool := decide (ids.getD i 0 = 0) || (decide (s.2.1 ≠ ids.getD i 0) && gB s (bn L S ids i) && (List.range i).all (fun j => decide (ids.getD j 0 = 0) || cj s (bn L S ids j) (bn L S ids i)))
theorem sd {L : List St} {S : List D3} {ids : List Int} {s : Sg} {n : Nat} (h : ∀ i, i < n → fG L S ids s i = true) : fO L S ids s n = true := by
 unfold fO
 rw [List.all_eq_true]
 exact fun i hi => h i (List.mem_range.1 hi)
theorem lz {L : List St} {S : List D3} {ids : List Int} {s : Sg} {n i : Nat} (hi : i < n) (h : fG L S ids s i = false) : fO L S ids s n = false := by
 unfold fO
 rw [List.all_eq_false]
 exact ⟨i, List.mem_range.2 hi, by unfold fG at h; rw [h]; simp⟩
theorem re {L : List St} {S : List D3} {ids : List Int} {s : Sg} {i : Nat} (h : ids.getD i 0 = 0) : fG L S ids s i = true := by unfold fG; rw [decide_eq_true h, Bool.true_or]
theorem qZ {L : List St} {S : List D3} {ids : List Int} {s : Sg} {i : Nat} (h : ids.getD i 0 ≠ 0) (h1 : s.2.1 = ids.getD i 0) : fG L S ids s i = false := by
 unfold fG
 rw [decide_eq_false h, Bool.false_or, show decide (s.2.1 ≠ ids.getD i 0) = false from decide_eq_false (fun g => g h1)]
 rfl
theorem sW {L : List St} {S : List D3} {ids : List Int} {s : Sg} {i : Nat} (h : ids.getD i 0 ≠ 0) (h1 : gB s (bn L S ids i) = false) : fG L S ids s i = false := by
 unfold fG
 rw [decide_eq_false h, Bool.false_or, h1, Bool.and_false]
 rfl
theorem rd {L : List St} {S : List D3} {ids : List Int} {s : Sg} {i j : Nat} (h : ids.getD i 0 ≠ 0) (hj : j < i) (h0 : ids.getD j 0 ≠ 0) (h1 : cj s (bn L S ids j) (bn L S ids i) = false) : fG L S ids s i = false := by
 unfold fG
 have : ((List.range i).all fun j => decide (ids.getD j 0 = 0) || cj s (bn L S ids j) (bn L S ids i)) = false := by
  rw [List.all_eq_false]
  exact ⟨j, List.mem_range.2 hj, by rw [decide_eq_false h0, h1]; simp⟩
 rw [decide_eq_false h, Bool.false_or, this, Bool.and_false]
theorem sX {L : List St} {S : List D3} {ids : List Int} {s : Sg} {i : Nat} (h1 : s.2.1 ≠ ids.getD i 0) (h2 : gB s (bn L S ids i) = true) (h3 : ∀ j, j < i → (decide (ids.getD j 0 = 0) || cj s (bn L S ids j) (bn L S ids i)) = true) : fG L S ids s i = true := by
 unfold fG
 rw [decide_eq_true h1, h2, show ((List.range i).all fun j => decide (ids.getD j 0 = 0) || cj s (bn L S ids j) (bn L S ids i)) = true from List.all_eq_true.2 (fun j hj => h3 j (List.mem_range.1 hj))]
 simp
def ld (L : List St) (S : List D3) (ids : List Int) (s : Sg) (i j : Nat) : Prop := ∀ l, l < j → (decide (ids.getD l 0 = 0) || cj s (bn L S ids l) (bn L S ids i)) = true
theorem iW {L : List St} {S : List D3} {ids : List Int} {s : Sg} {i j : Nat} (h : ld L S ids s i j) (h1 : (decide (ids.getD j 0 = 0) || cj s (bn L S ids j) (bn L S ids i)) = true) : ld L S ids s i (j + 1) := fun l hl => by
 by_cases e : l = j
 ·rw [e]; exact h1
 ·exact h l (by omega)
theorem qX (L : List St) (S : List D3) (ids : List Int) (s : Sg) (i : Nat) : ld L S ids s i 0 := fun j hj => absurd hj (Nat.not_lt_zero _)
theorem pP (L : List St) (S : List D3) (ids : List Int) (k : Nat) (id : Int) (ar br ir : Option Addr) (cr dr er : Nat) (w : World) (hk6 : k ≤ 6) (hn : L.length ≤ 12) (hS : aH w ar L L.length) (hD : co w br S (k + 1)) (hI : eP w ir ids k)
  (hwd : ∀ i, i ≤ k → fX (vA S i) = true) (hid : aL (atV L L.length id).1 (atV L L.length id).2.1 (atV L L.length id).2.2 = true) (hids : ∀ i, i < k → ids.getD i 0 ≠ 0 → aL (atV L L.length (ids.getD i 0)).1 (atV L L.length (ids.getD i 0)).2.1 (atV L L.length (ids.getD i 0)).2.2 = true) :
  Calls Tryz.prog 118 #[.slice ar L.length cr, .slice br (k + 1) dr, .slice ir k er, .int .i64 id] w fun e w' => e = .returned (.bool (fO L S ids (vA S k, (id, atV L L.length id)) k)) ∧ Below w.heap.size w w' := by
 have cA := yz (fun (W : World) (q : Int) hW => nC L L.length q ar cr W (by omega) hW)
 have HS := yz hS
 have HD := yz hD
 have HWD := yz hwd
 have HDS := yz hids
 have HSO : Hid (∀ i, bn L S ids i = (vA S i, (ids.getD i 0, atV L L.length (ids.getD i 0)))) := yz (fun i => rfl)
 clear hS hD hwd hids
 obtain ⟨⟨p1, p2, p3⟩, hp⟩ : ∃ p, vA S k = p := ⟨_, rfl⟩
 obtain ⟨⟨q1, q2, q3⟩, hq⟩ : ∃ p, atV L L.length id = p := ⟨_, rfl⟩
 obtain ⟨sg, hsg⟩ : ∃ sg : Sg, sg = ((p1, p2, p3), (id, q1, q2, q3)) := ⟨_, rfl⟩
 have cV := yz (fun (W : World) hW => yy cA W id hW)
 rw [hq] at hid cV
 have HWK : Hid (fX (p1, p2, p3) = true) := yz (by rw [← hp]; exact yy HWD k (Nat.le_refl _))
 have HIDS := yz hid
 rw [hp, hq, ← hsg]
 have HSG := yz hsg
 have HP := yz hp
 clear hp hq hsg hid
 generalize L.length = n at *
 go_enter Tryz.func118, Tryz.ntmps118
 go_wp2_with fail
 refine (yy cV _ (yy HS)).mono ?_
 rintro e W1 ⟨rfl, hx⟩
 unfold rl
 simp only
 have Z := an W1 (.cells #[.int .i64 q1, .int .i64 q2, .int .i64 q3] 78)
 have HB1 := yz (aj hx Z)
 have HV1 := yz (aE W1 q1 q2 q3 78)
 clear hx Z cV
 go_wp2_with fail
 generalize W1.alloc (.cells #[.int .i64 q1, .int .i64 q2, .int .i64 q3] 78) = W2 at HB1 HV1 ⊢
 generalize W1.heap.size = vb at *
 rcases hI with h0 | ⟨ib, io, rfl, hib, hic⟩
 ·subst h0
  refine wp_loop_rounds 1 ?_
  rw [rounds_succ]
  go_wp2_with fail
  go_ret
  exact ⟨rfl, yy HB1⟩
 have HIC := yz hic
 clear hic
 rcases yy HD with h | ⟨bb, bo, rfl, hbb, hbc⟩
 ·omega
 have HBC := yz hbc
 clear hbc
 go_loopw [11] (fun kk wr => ∃ i : Nat, i ≤ k ∧ kk = .int .i64 i ∧ Hid (∀ j, j < i → fG L S ids sg j = true) ∧ Hid (aF wr vb q1 q2 q3) ∧ Hid (Below w.heap.size w wr)) (fun kk _ => k - (intOf kk).toNat)
 case atStart => exact ⟨0, by omega, rfl, yz (fun j hj => absurd hj (Nat.not_lt_zero _)), HV1, HB1⟩
 case round =>
  clear HV1 HB1
  obtain ⟨i, hi, rfl, HF, HV, HB⟩ := hrel
  by_cases hik : i < k
  ·have hik2 : (i : Int) < (k : Int) := by omega
   have ci : wr.cell? ⟨ib, io + i, none⟩ = some (.int .i64 (ids.getD i 0)) := by rw [(yy HB).cell (p := ⟨ib, io + i, none⟩) hib]; exact yy HIC i hik
   have HSI := yz (yy HSO i)
   obtain ⟨x, hxi⟩ : ∃ x, ids.getD i 0 = x := ⟨_, rfl⟩
   rw [hxi] at ci HSI
   have HX := yz hxi
   clear hxi
   by_cases hx0 : x = 0
   ·subst hx0
    have HOK := yz (re (L := L) (S := S) (s := sg) (yy HX))
    go_wp2_with fail
    go_roundw
    case rel => exact ⟨i + 1, by omega, by go_num, yz (fun l hl => by
     by_cases e : l = i
     ·rw [e]; exact yy HOK
     ·exact yy HF l (by omega)), HV, HB⟩
    case measure => simp [intOf] <;> omega
   have hx0' : (x == 0) = false := by simp [hx0]
   have HXN : Hid (ids.getD i 0 ≠ 0) := yz (by rw [yy HX]; exact hx0)
   by_cases hxd : x = id
   ·subst hxd
    have HNO := yz (lz hik (qZ (L := L) (S := S) (s := sg) (yy HXN) (by rw [yy HX, yy HSG])))
    go_wp2_with fail
    go_ret
    exact ⟨by rw [yy HNO]; rfl, yy HB⟩
   have hxd' : (x == id) = false := by simp [hxd]
   have HDX : Hid (sg.2.1 ≠ ids.getD i 0) := yz (by rw [yy HX, yy HSG]; exact fun e => hxd e.symm)
   have cW := yz (fun (W : World) hW => yy cA W x hW)
   have hsmx := yy HDS i hik (yy HXN)
   rw [yy HX] at hsmx
   obtain ⟨⟨w1, w2, w3⟩, hwv⟩ : ∃ p, atV L n x = p := ⟨_, rfl⟩
   rw [hwv] at cW hsmx HSI
   clear hwv
   obtain ⟨⟨s1, s2, s3⟩, hsv⟩ : ∃ p, vA S i = p := ⟨_, rfl⟩
   have HSVI := yz hsv
   rw [hsv] at HSI
   have hwi := yy HWD i (by omega)
   rw [hsv] at hwi
   clear hsv
   go_wp2_with fail
   refine (yy cW _ ((yy HS).kept (yy HB))).mono ?_
   rintro e W3 ⟨rfl, hx⟩
   unfold rl
   simp only
   have Z := an W3 (.cells #[.int .i64 w1, .int .i64 w2, .int .i64 w3] 78)
   have HB3 := yz (aj (aj (yy HB) hx) Z)
   have HV3 := yz (((yy HV).kept (jN (yy HV)) hx).kept (Nat.lt_of_lt_of_le (jN (yy HV)) hx.size) Z)
   have HW3 := yz (aE W3 w1 w2 w3 78)
   clear hx Z cW ci HB HV
   go_wp2_with fail
   generalize W3.alloc (.cells #[.int .i64 w1, .int .i64 w2, .int .i64 w3] 78) = W4 at HB3 HV3 HW3 ⊢
   generalize W3.heap.size = wb at *
   have hsp := (yy HBC i (by omega)).kept hbb (yy HB3)
   have hpp := (yy HBC k (by omega)).kept hbb (yy HB3)
   rw [yy HSVI] at hsp
   rw [yy HP] at hpp
   have cC := yz (fun W => tq (s1, s2, s3) (p1, p2, p3) (w1, w2, w3) (q1, q2, q3) hwi (yy HWK) hsmx (yy HIDS) W)
   have HFA : Hid (gB sg (bn L S ids i) = decide (jQ s1 s2 s3 p1 p2 p3 w1 w2 w3 q1 q2 q3 = 0)) := yz (by rw [yy HSI, yy HSG]; rfl)
   generalize jQ s1 s2 s3 p1 p2 p3 w1 w2 w3 q1 q2 q3 = cv at *
   simp only at cC
   obtain ⟨c0, c1, c2⟩ := hsp
   obtain ⟨d0, d1, d2⟩ := hpp
   obtain ⟨e0, e1, e2⟩ := yy HV3
   obtain ⟨f0, f1, f2⟩ := yy HW3
   have rc0 := cell_regrown c0
   have rc1 := cell_regrown c1
   have rc2 := cell_regrown c2
   have rd0 := cell_regrown d0
   have rd1 := cell_regrown d1
   have rd2 := cell_regrown d2
   have re0 := cell_regrown e0
   have re1 := cell_regrown e1
   have re2 := cell_regrown e2
   have rf0 := cell_regrown f0
   have rf1 := cell_regrown f1
   have rf2 := cell_regrown f2
   clear c0 c1 c2 d0 d1 d2 e0 e1 e2 f0 f1 f2
   have hik3 : (i : Int) < (k : Int) + 1 := by omega
   have hkk3 : (k : Int) < (k : Int) + 1 := by omega
   refine wp_region_quiet_below (by kernel_rfl) (by kernel_rfl) ?_
   repeat (go_big_quiet_step (first | (with_reducible exact Calls.regrown_of (yy cC _))))
   refine wpQuiet_nil ?_
   intro _ hw'
   obtain ⟨⟨dq, osq⟩, hw''⟩ := hw'
   subst hw''
   have hx := below_regrown W4 dq osq
   have HB5 := yz (aj (yy HB3) hx)
   have HV5 := yz ((yy HV3).kept (jN (yy HV3)) hx)
   have HW5 := yz ((yy HW3).kept (jN (yy HW3)) hx)
   generalize grow (redrawn W4 dq) osq = W5 at hx HB5 HV5 HW5 ⊢
   clear hx rc0 rc1 rc2 rd0 rd1 rd2 re0 re1 re2 rf0 rf1 rf2 cC HB3 HV3 HW3
   by_cases hcv : cv ≠ 0
   ·have hcv' : (cv == 0) = false := by simp [hcv]
    have HNO := yz (lz hik (sW (L := L) (S := S) (s := sg) (yy HXN) (by rw [yy HFA]; exact decide_eq_false hcv)))
    go_wp2_with fail
    go_ret
    exact ⟨by rw [yy HNO]; rfl, yy HB5⟩
   have hcv0 : cv = 0 := Decidable.not_not.1 hcv
   subst hcv0
   clear hcv
   have HFT : Hid (gB sg (bn L S ids i) = true) := yz (by rw [yy HFA]; rfl)
   clear HFA
   go_wp2_with fail
   go_loopw [13] (fun kk wr => ∃ j : Nat, j ≤ i ∧ kk = .int .i64 j ∧ Hid (ld L S ids sg i j) ∧ Hid (aF wr vb q1 q2 q3) ∧ Hid (aF wr wb w1 w2 w3) ∧ Hid (Below w.heap.size w wr)) (fun kk _ => i - (intOf kk).toNat)
   case atStart => exact ⟨0, by omega, rfl, yz (qX _ _ _ _ _), HV5, HW5, HB5⟩
   case round =>
    clear HV5 HW5 HB5
    obtain ⟨j, hj, rfl, HL, HV, HW, HB⟩ := hrel
    by_cases hji : j < i
    ·have hji2 : (j : Int) < (i : Int) := by omega
     have hjk2 : (j : Int) < (k : Int) := by omega
     have ci : wr.cell? ⟨ib, io + j, none⟩ = some (.int .i64 (ids.getD j 0)) := by rw [(yy HB).cell (p := ⟨ib, io + j, none⟩) hib]; exact yy HIC j (by omega)
     have HSJ := yz (yy HSO j)
     obtain ⟨y, hyi⟩ : ∃ x, ids.getD j 0 = x := ⟨_, rfl⟩
     rw [hyi] at ci HSJ
     have HY := yz hyi
     clear hyi
     by_cases hy0 : y = 0
     ·subst hy0
      have HOK : Hid ((decide (ids.getD j 0 = 0) || cj sg (bn L S ids j) (bn L S ids i)) = true) := yz (by rw [yy HY]; rfl)
      go_wp2_with fail
      go_roundw
      case rel => exact ⟨j + 1, by omega, by go_num, yz (iW (yy HL) (yy HOK)), HV, HW, HB⟩
      case measure => simp [intOf] <;> omega
     have hy0' : (y == 0) = false := by simp [hy0]
     have HYN : Hid (ids.getD j 0 ≠ 0) := yz (by rw [yy HY]; exact hy0)
     have cU := yz (fun (W : World) hW => yy cA W y hW)
     have hsmy := yy HDS j (by omega) (yy HYN)
     rw [yy HY] at hsmy
     obtain ⟨⟨u1, u2, u3⟩, huv⟩ : ∃ p, atV L n y = p := ⟨_, rfl⟩
     rw [huv] at cU hsmy HSJ
     clear huv
     obtain ⟨⟨t1, t2, t3⟩, htv⟩ : ∃ p, vA S j = p := ⟨_, rfl⟩
     have HTVJ := yz htv
     rw [htv] at HSJ
     have hwj := yy HWD j (by omega)
     rw [htv] at hwj
     clear htv
     go_wp2_with fail
     refine (yy cU _ ((yy HS).kept (yy HB))).mono ?_
     rintro e W6 ⟨rfl, hx⟩
     unfold rl
     simp only
     have Z := an W6 (.cells #[.int .i64 u1, .int .i64 u2, .int .i64 u3] 78)
     have HB6 := yz (aj (aj (yy HB) hx) Z)
     have HV6 := yz (((yy HV).kept (jN (yy HV)) hx).kept (Nat.lt_of_lt_of_le (jN (yy HV)) hx.size) Z)
     have HW6 := yz (((yy HW).kept (jN (yy HW)) hx).kept (Nat.lt_of_lt_of_le (jN (yy HW)) hx.size) Z)
     have HU6 := yz (aE W6 u1 u2 u3 78)
     clear hx Z cU ci HB HV HW
     go_wp2_with fail
     generalize W6.alloc (.cells #[.int .i64 u1, .int .i64 u2, .int .i64 u3] 78) = W7 at HB6 HV6 HW6 HU6 ⊢
     generalize W6.heap.size = ub at *
     have hsp := (yy HBC i (by omega)).kept hbb (yy HB6)
     have htp := (yy HBC j (by omega)).kept hbb (yy HB6)
     have hpp := (yy HBC k (by omega)).kept hbb (yy HB6)
     rw [yy HSVI] at hsp
     rw [yy HTVJ] at htp
     rw [yy HP] at hpp
     obtain ⟨x1, x2, x3, dd, cX, cY, cZ⟩ := ni (t1, t2, t3) (s1, s2, s3) (p1, p2, p3) (eN hwj).1 (eN hwi).1 (eN (yy HWK)).1
     obtain ⟨y1, y2, y3, d2, cX2, cY2, cZ2⟩ := ni (u1, u2, u3) (w1, w2, w3) (q1, q2, q3) (bW hsmy).1 (bW hsmx).1 (bW (yy HIDS)).1
     have HSB : Hid (cj sg (bn L S ids j) (bn L S ids i) = decide (eS (mH (t1, t2, t3) (s1, s2, s3) (p1, p2, p3)) 0 = eS (mH (u1, u2, u3) (w1, w2, w3) (q1, q2, q3)) 0)) := yz (by rw [yy HSI, yy HSJ, yy HSG]; rfl)
     generalize eS (mH (t1, t2, t3) (s1, s2, s3) (p1, p2, p3)) 0 = o1 at *
     generalize eS (mH (u1, u2, u3) (w1, w2, w3) (q1, q2, q3)) 0 = o2 at *
     simp only at cX cY cZ cX2 cY2 cZ2
     obtain ⟨c0, c1, c2⟩ := hsp
     obtain ⟨d0, d1, d2'⟩ := hpp
     obtain ⟨e0, e1, e2⟩ := yy HV6
     obtain ⟨f0, f1, f2⟩ := yy HW6
     obtain ⟨g0, g1, g2⟩ := yy HU6
     obtain ⟨h0, h1, h2⟩ := htp
     have rc0 := cell_regrown c0
     have rc1 := cell_regrown c1
     have rc2 := cell_regrown c2
     have rd0 := cell_regrown d0
     have rd1 := cell_regrown d1
     have rd2 := cell_regrown d2'
     have re0 := cell_regrown e0
     have re1 := cell_regrown e1
     have re2 := cell_regrown e2
     have rf0 := cell_regrown f0
     have rf1 := cell_regrown f1
     have rf2 := cell_regrown f2
     have rg0 := cell_regrown g0
     have rg1 := cell_regrown g1
     have rg2 := cell_regrown g2
     have rh0 := cell_regrown h0
     have rh1 := cell_regrown h1
     have rh2 := cell_regrown h2
     clear c0 c1 c2 d0 d1 d2' e0 e1 e2 f0 f1 f2 g0 g1 g2 h0 h1 h2
     have hjk3 : (j : Int) < (k : Int) + 1 := by omega
     refine wp_region_quiet_below (by kernel_rfl) (by kernel_rfl) ?_
     repeat (go_big_quiet_step (first | (with_reducible exact Calls.regrown_of (yy cX _)) | (with_reducible exact Calls.regrown_of (yy cY _)) | (with_reducible exact Calls.regrown_of (yy cZ _)) | (with_reducible exact Calls.regrown_of (yy cX2 _)) | (with_reducible exact Calls.regrown_of (yy cY2 _)) | (with_reducible exact Calls.regrown_of (yy cZ2 _))))
     refine wpQuiet_nil ?_
     intro _ hw'
     obtain ⟨⟨dq, osq⟩, hw''⟩ := hw'
     subst hw''
     have hx := below_regrown W7 dq osq
     have HB8 := yz (aj (yy HB6) hx)
     have HV8 := yz ((yy HV6).kept (jN (yy HV6)) hx)
     have HW8 := yz ((yy HW6).kept (jN (yy HW6)) hx)
     generalize grow (redrawn W7 dq) osq = W8 at hx HB8 HV8 HW8 ⊢
     clear hx rc0 rc1 rc2 rd0 rd1 rd2 re0 re1 re2 rf0 rf1 rf2 rg0 rg1 rg2 rh0 rh1 rh2 cX cY cZ cX2 cY2 cZ2 HB6 HV6 HW6 HU6
     by_cases ho : o1 = o2
     ·subst ho
      have HOK : Hid ((decide (ids.getD j 0 = 0) || cj sg (bn L S ids j) (bn L S ids i)) = true) := yz (by rw [yy HSB]; simp)
      go_wp2_with fail
      go_roundw
      case rel => first | exact ⟨j + 1, by omega, by go_num, yz (iW (yy HL) (yy HOK)), HV8, HW8, HB8⟩ | exact ⟨j + 1, by omega, by omega, yz (iW (yy HL) (yy HOK))⟩
      case measure => simp [intOf] <;> omega
     ·have ho' : (o1 == o2) = false := by simp [ho]
      have HNO := yz (lz hik (rd (L := L) (S := S) (s := sg) (yy HXN) hji (yy HYN) (by rw [yy HSB]; exact decide_eq_false ho)))
      go_wp2_with fail
      go_ret
      exact ⟨by rw [yy HNO]; rfl, yy HB8⟩
    ·have hji' : j = i := by omega
     subst hji'
     have HOK := yz (sX (yy HDX) (yy HFT) (yy HL))
     go_wp2_with fail
     go_roundw
     case rel => exact ⟨j + 1, by omega, by go_num, yz (fun l hl => by
      by_cases e : l = j
      ·rw [e]; exact yy HOK
      ·exact yy HF l (by omega)), HV, HB⟩
     case measure => simp [intOf] <;> omega
  ·have hik' : i = k := by omega
   subst hik'
   have HY := yz (sd (yy HF))
   go_wp2_with fail
   go_ret
   exact ⟨by rw [yy HY]; rfl, yy HB⟩
theorem eP.less {w : World} {a : Option Addr} {L : List Int} {n m : Nat} (h : eP w a L n) (hm : m ≤ n) : eP w a L m := by
 rcases h with h | ⟨b, o, ha, hb, hc⟩
 ·exact .inl (by omega)
 ·exact .inr ⟨b, o, ha, hb, fun i hi => hc i (by omega)⟩
def je (w : World) (b : Nat) (v0 v1 v2 : Value) (c m : Int) : Prop := w.cell? ⟨b, 0, none⟩ = some v0 ∧ w.cell? ⟨b, 1, none⟩ = some v1 ∧ w.cell? ⟨b, 2, none⟩ = some v2 ∧ w.cell? ⟨b, 3, none⟩ = some (.int .i64 c) ∧ w.cell? ⟨b, 4, none⟩ = some (.int .i64 m)
theorem ba {w w' : World} {a : Addr} {v : Value} (h : w.cell? a = some v) (hB : Below w.heap.size w w') : w'.cell? a = some v := (hB.cell (World.block_lt_of_cell? w a h)).trans h
theorem dt {w w' : World} {a : Addr} {v : Value} {row : Option Nat} (h : w.cell? a = some v) (hg : w.grownBy w' row) (hne : some a.block ≠ row) : w'.cell? a = some v := (World.cell?_of_block (hg.block a.block (World.block_lt_of_cell? w a h) hne)).trans h
theorem je.kept {w w' : World} {b : Nat} {v0 v1 v2 : Value} {c m : Int} (h : je w b v0 v1 v2 c m) (hB : Below w.heap.size w w') : je w' b v0 v1 v2 c m := ⟨ba h.1 hB, ba h.2.1 hB, ba h.2.2.1 hB, ba h.2.2.2.1 hB, ba h.2.2.2.2 hB⟩
theorem je.lt {w : World} {b : Nat} {v0 v1 v2 : Value} {c m : Int} (h : je w b v0 v1 v2 c m) : b < w.heap.size := World.block_lt_of_cell? w _ h.1
def fe (w : World) (b : Nat) : Prop := ∀ i, w.frozen? ⟨b, i, none⟩ = false
theorem fe.kept {w w' : World} {b : Nat} (h : fe w b) (hb : b < w.heap.size) (hB : Below w.heap.size w w') : fe w' b := fun i => (hB.frozen (p := ⟨b, i, none⟩) hb).trans (h i)
theorem fe.set {w : World} {b : Nat} (h : fe w b) (p : Addr) (v : Value) : fe (w.setCell p v) b := fun i => by rw [World.frozen?_setCell]; exact h i
def iH (w : World) (x : Nat) (ir : Option Addr) (ids : List Int) : Prop := (ids = [] ∧ ir = none) ∨ ∃ g, ir = some ⟨g, 0, none⟩ ∧ g ≠ x ∧ g < w.heap.size ∧ ∀ i, i < ids.length → w.cell? ⟨g, i, none⟩ = some (.int .i64 (ids.getD i 0))
theorem iH.nums {w : World} {x : Nat} {ir : Option Addr} {ids : List Int} (h : iH w x ir ids) : eP w ir ids ids.length := by
 rcases h with ⟨rfl, _⟩ | ⟨g, rfl, _, hl, hc⟩
 ·exact .inl rfl
 ·exact .inr ⟨g, 0, rfl, hl, fun i hi => by rw [Nat.zero_add]; exact hc i hi⟩
theorem iH.grown {w w' : World} {x : Nat} {ir : Option Addr} {ids : List Int} (h : iH w x ir ids) (hg : w.grownBy w' (some x)) : iH w' x ir ids := by
 rcases h with h | ⟨g, hi, hn, hl, hc⟩
 ·exact .inl h
 ·exact .inr ⟨g, hi, hn, Nat.lt_of_lt_of_le hl hg.size, fun i hi => dt (hc i hi) hg (fun e => hn (Option.some.inj e))⟩
def nU (a : Option Addr) (x : Nat) : Prop := ∀ y, a = some y → y.block ≠ x
theorem vE {w w' : World} {a : Option Addr} {L : List St} {n x : Nat} (h : aH w a L n) (hg : w.grownBy w' (some x)) (hne : nU a x) : aH w' a L n := by
 rcases h with h | ⟨b, o, rfl, hb, hc⟩
 ·exact .inl h
 ·refine .inr ⟨b, o, rfl, Nat.lt_of_lt_of_le hb hg.size, fun i hi => ?_⟩
  have hn : ∀ k, some (⟨b, k, none⟩ : Addr).block ≠ some x := fun k e => hne _ rfl (Option.some.inj e)
  obtain ⟨c0, c1, c2, c3⟩ := hc i hi
  exact ⟨dt c0 hg (hn _), dt c1 hg (hn _), dt c2 hg (hn _), dt c3 hg (hn _)⟩
theorem vI {w w' : World} {a : Option Addr} {L : List D3} {n x : Nat} (h : co w a L n) (hg : w.grownBy w' (some x)) (hne : nU a x) : co w' a L n := by
 rcases h with h | ⟨b, o, rfl, hb, hc⟩
 ·exact .inl h
 ·refine .inr ⟨b, o, rfl, Nat.lt_of_lt_of_le hb hg.size, fun i hi => ?_⟩
  have hn : ∀ k, some (⟨b, k, none⟩ : Addr).block ≠ some x := fun k e => hne _ rfl (Option.some.inj e)
  obtain ⟨c0, c1, c2⟩ := hc i hi
  exact ⟨dt c0 hg (hn _), dt c1 hg (hn _), dt c2 hg (hn _)⟩
structure gD (w : World) (x : Nat) (L : List St) (S : List D3) (ar br : Option Addr) (cr dr : Nat) (s : SeN) : Prop where
 cells : ∃ v, je w x (.slice ar L.length cr) (.slice br S.length dr) v (s.count : Int) (s.many : Int) ∧ w.ownsRow (x + 1) 2 1 v s.best.length (eE s.best)
 free : fe w x
 stars : aH w ar L L.length
 dirs : co w br S S.length
 apS : nU ar x
 apD : nU br x
theorem uD {w w' : World} {B n m : Nat} {t : TypeId} {v : Value} {xs : List Value} (h : w.ownsRow B t m v n xs) (hB : Below w.heap.size w w') : w'.ownsRow B t m v n xs := by
 obtain ⟨h1, h2⟩ := h
 refine ⟨h1, ?_⟩
 rcases h2 with h2 | ⟨g, c', cur, e, hg, hh, r⟩
 ·exact .inl h2
 ·exact .inr ⟨g, c', cur, e, hg, by rw [hB.block g (Array.getElem?_eq_some_iff.1 hh).1]; exact hh, r⟩
theorem lc {w : World} {x n m : Nat} {t : TypeId} {v : Value} {xs : List Value} (h : w.ownsRow (x + 1) t m v n xs) (o : Nat) (y : Value) : (w.setCell ⟨x, o, none⟩ y).ownsRow (x + 1) t m v n xs := by
 obtain ⟨h1, h2⟩ := h
 refine ⟨h1, ?_⟩
 rcases h2 with h2 | ⟨g, c', cur, e, hg, hh, r⟩
 ·exact .inl h2
 ·exact .inr ⟨g, c', cur, e, hg, by rw [Below.heap_setCell w ⟨x, o, none⟩ y g (by show g ≠ x; omega)]; exact hh, r⟩
theorem bH {w w' : World} {x : Nat} (h : Below w.heap.size w w') : w.grownBy w' (some x) := ⟨h.os, h.tape, h.output, h.size, fun k hk _ => h.block k hk⟩
theorem gD.kept {w w' : World} {x : Nat} {L : List St} {S : List D3} {ar br : Option Addr} {cr dr : Nat} {s : SeN} (h : gD w x L S ar br cr dr s) (hB : Below w.heap.size w w') : gD w' x L S ar br cr dr s := by
 obtain ⟨⟨v, h1, h2⟩, hf, hs, hd, a1, a2⟩ := h
 exact ⟨⟨v, h1.kept hB, uD h2 hB⟩, hf.kept h1.lt hB, hs.kept hB, hd.kept hB, a1, a2⟩
def bV (L : List St) (S : List D3) (ids : List Int) (a : Int) : Bool := fO L S ids (vA S ids.length, (a, atV L L.length a)) ids.length
def oX (L : List St) (ids : List Int) : Prop := ∀ i, i < ids.length → ids.getD i 0 ≠ 0 → aL (atV L L.length (ids.getD i 0)).1 (atV L L.length (ids.getD i 0)).2.1 (atV L L.length (ids.getD i 0)).2.2 = true
def th (L : List St) (S : List D3) (ar br : Option Addr) (cr dr x r : Nat) : Prop := ∀ (ids : List Int) (s : SeN) (ir : Option Addr) (er : Nat) (w : World), ids.length + r = S.length → oX L ids → s.many + 13 ^ r ≤ 100000000 → s.count ≤ 6 → (ir = none → er = 0) → iH w x ir ids → gD w x L S ar br cr dr s →
  Calls Tryz.prog 100 #[.pointer (some ⟨x, 0, none⟩), .slice ir ids.length er, .int .i64 (aJ ids : Int)] w fun e w' => (∃ v, e = .returned v) ∧ gD w' x L S ar br cr dr (dx (bV L S) (L.map (·.1)) r ids s) ∧ w.grownBy w' (some x)
theorem lH (L : List St) (S : List D3) (ar br : Option Addr) (cr dr x r : Nat) (hm6 : S.length ≤ 6) (ids : List Int) (s : SeN) (ir : Option Addr) (er : Nat) (w : World) (hl : ids.length + r = S.length) (hc6 : s.count ≤ 6) (hst : gD w x L S ar br cr dr s) (hp : aJ ids + r < s.count) :
  Calls Tryz.prog 100 #[.pointer (some ⟨x, 0, none⟩), .slice ir ids.length er, .int .i64 (aJ ids : Int)] w fun e w' => (∃ v, e = .returned v) ∧ gD w' x L S ar br cr dr (dx (bV L S) (L.map (·.1)) r ids s) ∧ w.grownBy w' (some x) := by
 have HS := yz hst
 have HF := yz (pB (F := bV L S) (A := L.map (·.1)) hp)
 obtain ⟨⟨v, h1, h2⟩, hf, hs, hd, a1, a2⟩ := hst
 obtain ⟨c0, c1, c2, c3, c4⟩ := h1
 have r1 := cell_regrown c1
 have r3 := cell_regrown c3
 have hc := eU ids
 generalize aJ ids = cn at *
 generalize ids.length = k at *
 generalize S.length = m at *
 clear h2 hf hs hd a1 a2 c0 c1 c2 c3 c4
 have hq : (cn : Int) + (m : Int) - (k : Int) < (s.count : Int) := by omega
 go_enter Tryz.func100, Tryz.ntmps100
 go_wp2_with fail
 refine wp_region_quiet_below (by kernel_rfl) (by kernel_rfl) ?_
 repeat (go_big_quiet_step (fail))
 refine wpQuiet_nil ?_
 intro _ hw'
 obtain ⟨⟨dq, osq⟩, hw''⟩ := hw'
 subst hw''
 have hx := below_regrown w dq osq
 go_wp2_with fail
 refine bodyPost_ret (results_none rfl _ _ _) rfl ?_
 exact ⟨⟨_, rfl⟩, by rw [yy HF]; exact (yy HS).kept hx, bH hx⟩
theorem kT {P : Program} (w : World) (t ty e : TypeId) (i : TypeInfo) (ht : P.underlying t = some (.slice e)) (hi : P.info? e = some i) (g : Nat) :
  (Builtin.append_ #[t, t] ty #[.slice (some ⟨g, 0, none⟩) 0 0, .slice none 0 0]).run P w = .ok (.slice (some ⟨g, 0, none⟩) 0 0) w := by
 simp [Builtin.append_, run_underlying ht, sizeOf, typeInfo, hi, Builtin.lenOf, Builtin.firstCells, loadCells, loadCellsFrom, storeCells]
theorem uz {w : World} {g : Nat} {ids : List Int} (hc : ∀ i, i < ids.length → w.cell? ⟨g, i, none⟩ = some (.int .i64 (ids.getD i 0))) (j : Nat) (u : Value) (hj : (eE ids)[j]? = some u) : w.cell? ((⟨g, 0, none⟩ : Addr).add j) = some u := by
 have hA : (⟨g, 0, none⟩ : Addr).add j = ⟨g, 0 + j, none⟩ := by unfold Addr.add; split <;> simp_all
 unfold eE at hj
 rw [List.getElem?_map] at hj
 have hlt : j < ids.length := by
  rcases Nat.lt_or_ge j ids.length with h | h
  ·exact h
  ·rw [List.getElem?_eq_none h] at hj; cases hj
 rw [hA, Nat.zero_add, hc j hlt]
 rw [List.getElem?_eq_getElem hlt] at hj
 rw [List.getD_eq_getElem?_getD, List.getElem?_eq_getElem hlt]
 exact hj
theorem tI (ids : List Int) : (eE ids).length = ids.length := by unfold eE; rw [List.length_map]
theorem ey (w : World) {ops : Array Oper} {rest : List Oper} {o : Oper} {a : Act} {Q : Exit → Act → World → Prop} (hgd : o.guard = none) (s x : Operand)
  (ho : o.op = .call { callee := .builtin .append, args := #[s, x], argTypes := #[44, 44] })
  (base g : Nat) (hs : a.eval s = .slice (some ⟨g, 0, none⟩) 0 0) (hown : w.ownsRow base 2 1 (.slice (some ⟨g, 0, none⟩) 0 0) 0 []) (y : Nat) (ir : Option Addr) (er : Nat) (ids : List Int) (hx : a.eval x = .slice ir ids.length er) (he : ir = none → er = 0) (hI : iH w y ir ids) (hk : ids.length ≤ 6) (hbase : base ≤ w.heap.size)
  (h : ∀ v' w', w'.ownsRow base 2 1 v' ids.length (eE ids) → w.grownBy w' (some g) → wpList Tryz.prog ops Q rest (a.put o.dst v') w') : wpList Tryz.prog ops Q (o :: rest) a w := by
 obtain ⟨i0, hinf, hz0, hz1, hz2⟩ := info_parts gN
 rcases hI with ⟨rfl, rfl⟩ | ⟨b, rfl, _, hl, hc⟩
 ·obtain rfl := he rfl
  have hr := kT (P := Tryz.prog) w 44 o.type 2 i0 Tryz.underlying44 hinf g
  refine wpList_plain hgd fun _ hK => ?_
  unfold Oper.wp execOp
  simp only [List.length_nil] at hx
  simp only [ho, resolve, invoke, builtin, Sem.run_bind, Sem.run_pure, Result.andThen_ok, List.map_toArray, List.map_cons, List.map_nil, hs, hx, hr]
  exact hK _ _ (h _ _ hown ⟨rfl, rfl, rfl, Nat.le_refl _, fun _ _ _ => rfl⟩)
 ·have hm : 6 ≤ maxLen := by decide +kernel
  refine wpList_append_own w hgd s x 44 ho base 2 i0 (.int .i64 0) 1 8 Tryz.underlying44 hinf hz0 hz1 hz2 rfl (by decide) _ 0 [] hs hown ⟨b, 0, none⟩ ids.length er (eE ids) hx (by rw [tI, Nat.mul_one]) (uz hc) (fun u hu => nB hu) (by omega) (by omega) hbase ?_
  intro v' w' h2 h3 _
  rw [Nat.zero_add, List.nil_append] at h2
  exact h v' w' h2 h3
theorem eM {w : World} {B n m : Nat} {t : TypeId} {v : Value} {xs : List Value} (h : w.ownsRow B t m v n xs) : ∃ a cap, v = .slice a n cap := by
 rcases h.2 with ⟨h1, h0⟩ | ⟨g, c', cur, e, _⟩
 ·exact ⟨none, 0, by rw [h1, h0]⟩
 ·exact ⟨_, _, e⟩
theorem nu {w w1 : World} {x : Nat} (h : w.grownBy w1 (some x)) (o : Nat) (y : Value) : w.grownBy (w1.setCell ⟨x, o, none⟩ y) (some x) := gM h o y
theorem rC {w w1 : World} {x : Nat} (h : w.grownBy w1 (some x)) (o : Obj) : w.grownBy (w1.alloc o) (some x) := ⟨h.os, h.tape, h.output, Nat.le_trans h.size (by simp), fun k hk hn => (Below.heap_alloc w1 o k (Nat.lt_of_lt_of_le hk h.size)).trans (h.block k hk hn)⟩
theorem uV {w w1 w2 : World} {x g : Nat} (h : w.grownBy w1 (some x)) (hg : w1.grownBy w2 (some g)) (hb : w.heap.size ≤ g) : w.grownBy w2 (some x) := ⟨hg.os.trans h.os, hg.tape.trans h.tape, hg.output.trans h.output, Nat.le_trans h.size hg.size, fun k hk hn => (hg.block k (Nat.lt_of_lt_of_le hk h.size) (fun e => by have := Option.some.inj e; omega)).trans (h.block k hk hn)⟩
theorem fw {w w1 w2 : World} {x : Nat} (h : w.grownBy w1 (some x)) (hg : w1.grownBy w2 (some x)) : w.grownBy w2 (some x) := ⟨hg.os.trans h.os, hg.tape.trans h.tape, hg.output.trans h.output, Nat.le_trans h.size hg.size, fun k hk hn => (hg.block k (Nat.lt_of_lt_of_le hk h.size) hn).trans (h.block k hk hn)⟩
theorem je.grown {w w' : World} {b : Nat} {v0 v1 v2 : Value} {c m : Int} {row : Option Nat} (h : je w b v0 v1 v2 c m) (hg : w.grownBy w' row) (hne : some b ≠ row) : je w' b v0 v1 v2 c m := ⟨dt h.1 hg hne, dt h.2.1 hg hne, dt h.2.2.1 hg hne, dt h.2.2.2.1 hg hne, dt h.2.2.2.2 hg hne⟩
theorem fe.grown {w w' : World} {b : Nat} {row : Option Nat} (h : fe w b) (hb : b < w.heap.size) (hg : w.grownBy w' row) (hne : some b ≠ row) : fe w' b := fun i => by
 have h1 := h i
 unfold World.frozen? at h1 ⊢
 rw [hg.block b hb hne]
 exact h1
theorem uH {w : World} {b : Nat} {v0 v1 v2 : Value} {c m : Int} (h : je w b v0 v1 v2 c m) (c' m' : Int) : je ((w.setCell ⟨b, 3, none⟩ (.int .i64 c')).setCell ⟨b, 4, none⟩ (.int .i64 m')) b v0 v1 v2 c' m' := by
 obtain ⟨h0, h1, h2, h3, h4⟩ := h
 refine ⟨?_, ?_, ?_, ?_, ?_⟩ <;> simp [go_sem, h0, h1, h2, h3, h4]
theorem rI {w : World} {b : Nat} {v0 v1 v2 : Value} {c m : Int} (h : je w b v0 v1 v2 c m) (v' : Value) (m' : Int) : je ((w.setCell ⟨b, 2, none⟩ v').setCell ⟨b, 4, none⟩ (.int .i64 m')) b v0 v1 v' c m' := by
 obtain ⟨h0, h1, h2, h3, h4⟩ := h
 refine ⟨?_, ?_, ?_, ?_, ?_⟩ <;> simp [go_sem, h0, h1, h2, h3, h4]
theorem rJ {w w' : World} {x : Nat} {L : List St} {S : List D3} {ar br : Option Addr} {cr dr : Nat} {s s' : SeN} {v' : Value} (h : gD w x L S ar br cr dr s) (hg : w.grownBy w' (some x)) (hc : je w' x (.slice ar L.length cr) (.slice br S.length dr) v' (s'.count : Int) (s'.many : Int)) (ho : w'.ownsRow (x + 1) 2 1 v' s'.best.length (eE s'.best)) (hf : fe w' x) : gD w' x L S ar br cr dr s' :=
 ⟨⟨v', hc, ho⟩, hf, vE h.stars hg h.apS, vI h.dirs hg h.apD, h.apS, h.apD⟩
theorem sl (L : List St) (S : List D3) (ar br : Option Addr) (cr dr x : Nat) (hm6 : S.length ≤ 6) (ids : List Int) (s : SeN) (ir : Option Addr) (er : Nat) (w : World) (hl : ids.length + 0 = S.length) (hmany : s.many + 1 ≤ 100000000) (hc6 : s.count ≤ 6) (he : ir = none → er = 0) (hI : iH w x ir ids) (hst : gD w x L S ar br cr dr s) (hp : ¬ aJ ids + 0 < s.count) :
  Calls Tryz.prog 100 #[.pointer (some ⟨x, 0, none⟩), .slice ir ids.length er, .int .i64 (aJ ids : Int)] w fun e w' => (∃ v, e = .returned v) ∧ gD w' x L S ar br cr dr (dx (bV L S) (L.map (·.1)) 0 ids s) ∧ w.grownBy w' (some x) := by
 obtain ⟨bst, ct, mn⟩ := s
 dsimp only at hmany hc6 hp
 have HS := yz hst
 have HI := yz hI
 have HF := yz (qC (F := bV L S) (A := L.map (·.1)) (s := ⟨bst, ct, mn⟩) hp)
 obtain ⟨⟨v, h1, h2⟩, hf, hs, hd, a1, a2⟩ := hst
 dsimp only at h1
 obtain ⟨c0, c1, c2, c3, c4⟩ := h1
 have r1 := cell_regrown c1
 have r3 := cell_regrown c3
 have hc := eU ids
 obtain ⟨cn, hcn⟩ : ∃ cn, aJ ids = cn := ⟨_, rfl⟩
 have HCN := yz hcn
 rw [hcn] at hp hc ⊢
 clear hcn
 by_cases hgt : ct < cn
 ·have hk6 : ids.length ≤ 6 := by omega
  have HE := yz he
  have HKM : Hid (S.length = ids.length) := yz (by omega)
  clear h2 hf hs hd a1 a2 c0 c1 c2 c3 c4 hI he
  rw [yy HKM] at r1
  have hq : ¬ (cn : Int) < (ct : Int) := by omega
  go_enter Tryz.func100, Tryz.ntmps100
  go_wp2_with fail
  refine wp_region_quiet_below (by kernel_rfl) (by kernel_rfl) ?_
  repeat (go_big_quiet_step (fail))
  refine wpQuiet_nil ?_
  intro _ hw'
  obtain ⟨⟨dq, osq⟩, hw''⟩ := hw'
  subst hw''
  have hx := below_regrown w dq osq
  generalize grow (redrawn w dq) osq = w1 at hx ⊢
  have S1 := yz ((yy HS).kept hx)
  have I1 := yz ((yy HI).grown (bH hx))
  have B1 := yz hx
  clear hx r1 r3 HS HI hq
  obtain ⟨⟨v, h1, h2⟩, hf, hs, hd, a1, a2⟩ := yy S1
  dsimp only at h1
  have H1 := yz h1
  have HFr := yz hf
  have hxl := h1.lt
  obtain ⟨c0, c1, c2, c3, c4⟩ := h1
  rw [yy HKM] at c1
  have f2 := hf 2
  have f3 := hf 3
  have f4 := hf 4
  clear hf hs hd a1 a2 h2
  have hgt' : (ct : Int) < (cn : Int) := by omega
  have HO : Hid (cd ⟨bst, ct, mn⟩ ids = ⟨ids, cn, 1⟩) := yz (by unfold cd; rw [yy HCN, if_pos hgt])
  have hz : ((w1.setCell ⟨x, 3, none⟩ (.int .i64 (cn : Int))).setCell ⟨x, 4, none⟩ (.int .i64 0)).heap.size = w1.heap.size := by simp
  have HN : Hid ((((w1.setCell ⟨x, 3, none⟩ (.int .i64 (cn : Int))).setCell ⟨x, 4, none⟩ (.int .i64 0)).alloc (.cells #[] 2)).ownsRow (x + 1) 2 1 (.slice (some ⟨w1.heap.size, 0, none⟩) 0 0) 0 []) := yz (by have := fQ ((w1.setCell ⟨x, 3, none⟩ (.int .i64 (cn : Int))).setCell ⟨x, 4, none⟩ (.int .i64 0)) (x + 1) (by omega); rw [hz] at this; exact this)
  have HG2 : Hid (w1.grownBy (((w1.setCell ⟨x, 3, none⟩ (.int .i64 (cn : Int))).setCell ⟨x, 4, none⟩ (.int .i64 0)).alloc (.cells #[] 2)) (some x)) := yz (rC (nu (nu (fc w1 (some x)) _ _) _ _) _)
  have I2 := yz ((yy I1).grown (yy HG2))
  have A2 := yz ((uH (yy H1) (cn : Int) 0).kept (an _ (.cells #[] 2)))
  have F2 := yz ((((yy HFr).set ⟨x, 3, none⟩ (.int .i64 (cn : Int))).set ⟨x, 4, none⟩ (.int .i64 0)).kept (by omega) (an _ (.cells #[] 2)))
  go_wp2_with (at_builtin; refine ey _ rfl _ _ rfl (x + 1) w1.heap.size rfl (yy HN) x ir er ids rfl (yy HE) (yy I2) hk6 ?d1 ?_)
  case d1 => simp; omega
  intro v' w3 ho hg
  obtain ⟨av, cv, rfl⟩ := eM ho
  have A3 := yz ((yy A2).grown hg (fun e => by have := Option.some.inj e; omega))
  have F3 := yz ((yy F2).grown (yy A2).lt hg (fun e => by have := Option.some.inj e; omega))
  have G3 := yz (uV (yy HG2) hg (Nat.le_refl _))
  have O3 := yz ho
  clear ho hg c0 c1 c2 c3 c4 f2 f3 f4 HN HG2 I2 A2 F2 hz
  obtain ⟨c0, c1, c2, c3, c4⟩ := yy A3
  have f2 := yy F3 2
  have f4 := yy F3 4
  go_wp2_with fail
  refine bodyPost_ret (results_none rfl _ _ _) rfl ?_
  have G4 := nu (nu (yy G3) 2 (.slice av ids.length cv)) 4 (.int .i64 1)
  refine ⟨⟨_, rfl⟩, ?_, fw (bH (yy B1)) G4⟩
  rw [yy HF, yy HO]
  exact rJ (yy S1) G4 (rI (yy A3) (.slice av ids.length cv) 1) (lc (lc (yy O3) _ _) _ _) (((yy F3).set _ _).set _ _)
 ·obtain rfl : cn = ct := by omega
  have HO : Hid (cd ⟨bst, cn, mn⟩ ids = ⟨ids, cn, mn + 1⟩) := yz (by unfold cd; dsimp only; rw [yy HCN, if_neg hgt, if_pos rfl])
  have HMN := yz (show (mn : Int) + 1 ≤ 100000000 by omega)
  clear hgt hp hmany
  have hk6 : ids.length ≤ 6 := by omega
  have HE := yz he
  have HKM : Hid (S.length = ids.length) := yz (by omega)
  clear h2 hf hs hd a1 a2 c0 c1 c2 c3 c4 hI he
  rw [yy HKM] at r1
  go_enter Tryz.func100, Tryz.ntmps100
  go_wp2_with fail
  refine wp_region_quiet_below (by kernel_rfl) (by kernel_rfl) ?_
  repeat (go_big_quiet_step (fail))
  refine wpQuiet_nil ?_
  intro _ hw'
  obtain ⟨⟨dq, osq⟩, hw''⟩ := hw'
  subst hw''
  have hx := below_regrown w dq osq
  generalize grow (redrawn w dq) osq = w1 at hx ⊢
  have S1 := yz ((yy HS).kept hx)
  have I1 := yz ((yy HI).grown (bH hx))
  have B1 := yz hx
  clear hx r1 r3 HS HI
  obtain ⟨⟨v, h1, h2⟩, hf, hs, hd, a1, a2⟩ := yy S1
  dsimp only at h1
  have H1 := yz h1
  have HFr := yz hf
  have hxl := h1.lt
  obtain ⟨c0, c1, c2, c3, c4⟩ := h1
  rw [yy HKM] at c1
  have f2 := hf 2
  have f3 := hf 3
  have f4 := hf 4
  clear hf hs hd a1 a2 h2
  have HN : Hid ((w1.alloc (.cells #[] 2)).ownsRow (x + 1) 2 1 (.slice (some ⟨w1.heap.size, 0, none⟩) 0 0) 0 []) := yz (fQ w1 (x + 1) (by omega))
  have HG2 : Hid (w1.grownBy (w1.alloc (.cells #[] 2)) (some x)) := yz (rC (fc w1 (some x)) _)
  have I2 := yz ((yy I1).grown (yy HG2))
  have A2 := yz ((yy H1).kept (an _ (.cells #[] 2)))
  have F2 := yz ((yy HFr).kept hxl (an _ (.cells #[] 2)))
  go_wp2_with (at_builtin; refine ey _ rfl _ _ rfl (x + 1) w1.heap.size rfl (yy HN) x ir er ids rfl (yy HE) (yy I2) hk6 ?d1 ?_)
  case d1 => simp; omega
  intro v' w3 ho hg
  obtain ⟨av, cv, rfl⟩ := eM ho
  have A3 := yz ((yy A2).grown hg (fun e => by have := Option.some.inj e; omega))
  have F3 := yz ((yy F2).grown (yy A2).lt hg (fun e => by have := Option.some.inj e; omega))
  have G3 := yz (uV (yy HG2) hg (Nat.le_refl _))
  have O3 := yz ho
  clear ho hg c0 c1 c2 c3 c4 f2 f3 f4 HN HG2 I2 A2 F2
  obtain ⟨c0, c1, c2, c3, c4⟩ := yy A3
  have hmn := yy HMN
  have hmn0 : (0 : Int) ≤ (mn : Int) := by omega
  generalize hmi : (mn : Int) = mi at *
  have f2 := yy F3 2
  have f4 := yy F3 4
  go_wp2_with fail
  subst hmi
  refine bodyPost_ret (results_none rfl _ _ _) rfl ?_
  have G4 := nu (nu (yy G3) 2 (.slice av ids.length cv)) 4 (.int .i64 ((mn : Int) + 1))
  refine ⟨⟨_, rfl⟩, ?_, fw (bH (yy B1)) G4⟩
  rw [yy HF, yy HO]
  exact rJ (yy S1) G4 (rI (yy A3) (.slice av ids.length cv) ((mn : Int) + 1)) (lc (lc (yy O3) _ _) _ _) (((yy F3).set _ _).set _ _)
theorem sB (ids : List Int) (a : Int) : eE ids ++ [.int .i64 a] = eE (ids ++ [a]) := by unfold eE; rw [List.map_append]; rfl
theorem rE {w : World} {B x cap : Nat} {a : Option Addr} {ids : List Int} (h : w.ownsRow B 2 1 (.slice a ids.length cap) ids.length (eE ids)) (hx : x < B) : iH w x a ids := by
 rcases h.2 with ⟨h1, h0⟩ | ⟨g, c', cur, e, hb, hg, hnc, hcm, hcs, htake⟩
 ·injection h1 with h1
  exact .inl ⟨List.eq_nil_of_length_eq_zero h0, h1⟩
 ·injection e with e1
  refine .inr ⟨g, e1, by omega, (Array.getElem?_eq_some_iff.1 hg).1, fun i hi => ?_⟩
  rw [cell_of_row w g i cur _ _ hg]
  have e4 : cur[i]? = (eE ids)[i]? := by
   rw [← htake, List.getElem?_take, if_pos (by omega)]
   simp
  rw [e4]
  unfold eE
  rw [List.getElem?_map, List.getElem?_eq_getElem hi, List.getD_eq_getElem?_getD, List.getElem?_eq_getElem hi]
  rfl
theorem qa {w : World} {B n cap : Nat} {a : Option Addr} {xs : List Value} (h : w.ownsRow B 2 1 (.slice a n cap) n xs) (ha : a = none) : cap = 0 := by
 rcases h.2 with ⟨h1, h0⟩ | ⟨g, c', cur, e, _⟩
 ·injection h1
 ·injection e with e1; rw [ha] at e1; cases e1
theorem tY {w : World} {B n : Nat} {v : Value} {xs : List Value} (h : w.ownsRow B 2 1 v n xs) (g : Nat) (e : v.ownBlock = some g) : B ≤ g := by
 rcases h.2 with ⟨h1, _⟩ | ⟨g', c', cur, e', hb, _⟩
 ·rw [h1] at e; cases e
 ·rw [e'] at e; simp [Value.ownBlock] at e; omega
theorem hH (w : World) {ops : Array Oper} {rest : List Oper} {o : Oper} {a : Act} {Q : Exit → Act → World → Prop} (hgd : o.guard = none) (s x : Operand)
  (ho : o.op = .call { callee := .builtin .append, args := #[s, x], argTypes := #[44, 44] })
  (base : Nat) (v : Value) (ids : List Int) (hs : a.eval s = v) (hown : w.ownsRow base 2 1 v ids.length (eE ids)) (g : Nat) (z : Int) (hx : a.eval x = .slice (some ⟨g, 0, none⟩) 1 1) (hc : w.cell? ⟨g, 0, none⟩ = some (.int .i64 z)) (hk : ids.length ≤ 6) (hbase : base ≤ w.heap.size)
  (h : ∀ v' w', w'.ownsRow base 2 1 v' (ids ++ [z]).length (eE (ids ++ [z])) → w.grownBy w' v.ownBlock → wpList Tryz.prog ops Q rest (a.put o.dst v') w') : wpList Tryz.prog ops Q (o :: rest) a w := by
 obtain ⟨i0, hinf, hz0, hz1, hz2⟩ := info_parts gN
 have hm : 7 ≤ maxLen := by decide +kernel
 refine wpList_append_own w hgd s x 44 ho base 2 i0 (.int .i64 0) 1 8 Tryz.underlying44 hinf hz0 hz1 hz2 rfl (by decide) v ids.length (eE ids) hs hown ⟨g, 0, none⟩ 1 1 [.int .i64 z] hx rfl ?_ (fun u hu => by rw [List.mem_singleton.1 hu]; rfl) (by omega) (by omega) hbase ?_
 ·intro j u hj
  match j, hj with
  | 0, hj =>
   obtain rfl : Value.int .i64 z = u := by simpa using hj
   have hA : (⟨g, 0, none⟩ : Addr).add 0 = ⟨g, 0, none⟩ := by unfold Addr.add; split <;> simp_all
   rw [hA]
   exact hc
  | j + 1, hj => simp at hj
 ·intro v' w' h2 h3 _
  rw [sB] at h2
  exact h v' w' (by rw [List.length_append]; exact h2) h3
theorem mr {L : List St} {ids : List Int} {a : Int} (h : oX L ids) (ha : a ≠ 0 → aL (atV L L.length a).1 (atV L L.length a).2.1 (atV L L.length a).2.2 = true) : oX L (ids ++ [a]) := by
 intro i hi h0
 rw [List.length_append, List.length_singleton] at hi
 by_cases e : i < ids.length
 ·have e1 : (ids ++ [a]).getD i 0 = ids.getD i 0 := by rw [List.getD_eq_getElem?_getD, List.getD_eq_getElem?_getD, List.getElem?_append_left e]
  rw [e1] at h0 ⊢
  exact h i e h0
 ·have e1 : (ids ++ [a]).getD i 0 = a := by
   rw [List.getD_eq_getElem?_getD, List.getElem?_append_right (by omega), show i - ids.length = 0 by omega]
   rfl
  rw [e1] at h0 ⊢
  exact ha h0
theorem qB (F : List Int → Int → Bool) (A : List Int) : ∀ (r : Nat) (ids : List Int) (s : SeN), s.count ≤ 6 → ids.length + r ≤ 6 → (dx F A r ids s).count ≤ 6 := by
 intro r ids s h1 h2
 rw [gK]
 have hall : ∀ l ∈ dR F A r ids, aJ l ≤ 6 := fun l hl => by have := jf F A r ids l hl; have := eU ids; omega
 generalize dR F A r ids = M at hall
 induction M generalizing s with
 | nil => exact h1
 | cons l M ih =>
  rw [List.foldl_cons]
  refine ih (cd s l) ?_ (fun x hx => hall x (by simp [hx]))
  have h3 := oZ s l
  have h4 := hall l (by simp)
  omega
theorem lS (F : List Int → Int → Bool) (A : List Int) (r : Nat) (ids : List Int) (s : SeN) (h1 : s.count ≤ 6) (h2 : ids.length + 1 + r ≤ 6) : ∀ i, i ≤ A.length → (dV F A r ids s i).count ≤ 6
 | 0, _ => h1
 | i + 1, h => by
  rw [gn F A r ids s (by omega)]
  have h3 := lS F A r ids s h1 h2 i (by omega)
  split
  ·exact qB F A r _ _ h3 (by rw [List.length_append, List.length_singleton]; omega)
  ·exact h3
theorem tM {L : List St} {i : Nat} (hi : i < L.length) : (L.map (·.1)).getD i 0 = (stA L i).1 := by
 unfold stA
 rw [List.getD_eq_getElem?_getD, List.getElem?_map, List.getD_eq_getElem?_getD, List.getElem?_eq_getElem hi]
 rfl
theorem mz {L : List St} (hk : aT L = true) {i : Nat} (hi : i < L.length) : aL (atV L L.length (stA L i).1).1 (atV L L.length (stA L i).1).2.1 (atV L L.length (stA L i).1).2.2 = true ∧ (stA L i).1 ≠ 0 := by
 rw [qw hk hi]
 have h := (cx hk).2 i hi
 unfold dN at h
 simp only [Bool.and_eq_true] at h
 refine ⟨?_, fun e => ?_⟩
 ·simp_all
 ·have : idB (stA L i).1 = true := by simp_all
  rw [e] at this
  exact absurd this (by decide)
theorem sn (L : List St) (S : List D3) (ar br : Option Addr) (cr dr x r : Nat) (hk : aT L = true) (hsp : aN S = true) (hdr : S.length ≤ dr) (hd9 : dr ≤ 9223372036854775807) (ih : th L S ar br cr dr x r)
  (ids : List Int) (s : SeN) (ir : Option Addr) (er : Nat) (w : World) (hl : ids.length + (r + 1) = S.length) (hsm : oX L ids) (hmany : s.many + 13 ^ (r + 1) ≤ 100000000) (hc6 : s.count ≤ 6) (he : ir = none → er = 0) (hI : iH w x ir ids) (hst : gD w x L S ar br cr dr s) (hp : ¬ aJ ids + (r + 1) < s.count) :
  Calls Tryz.prog 100 #[.pointer (some ⟨x, 0, none⟩), .slice ir ids.length er, .int .i64 (aJ ids : Int)] w fun e w' => (∃ v, e = .returned v) ∧ gD w' x L S ar br cr dr (dx (bV L S) (L.map (·.1)) (r + 1) ids s) ∧ w.grownBy w' (some x) := by
 have hn12 : L.length ≤ 12 := (cx hk).1
 have hm6 : S.length ≤ 6 := (bq hsp).1
 have hAl : (L.map (·.1)).length = L.length := List.length_map _
 have HF := yz (qE (F := bV L S) (A := L.map (·.1)) hp)
 have HIH := yz ih
 have HE := yz he
 have HSM := yz hsm
 have HS := yz hst
 have HI0 := yz hI
 have cF : Hid (∀ (id : Int) (W : World), aL (atV L L.length id).1 (atV L L.length id).2.1 (atV L L.length id).2.2 = true → aH W ar L L.length → co W br S S.length → eP W ir ids ids.length → Calls Tryz.prog 118 #[.slice ar L.length cr, .slice br (ids.length + 1) dr, .slice ir ids.length er, .int .i64 id] W fun e w' => e = .returned (.bool (bV L S ids id)) ∧ Below W.heap.size W w') :=
  yz (fun id W h1 h2 h3 h4 => pP L S ids ids.length id ar br ir cr dr er W (by omega) hn12 h2 (h3.less (by omega)) h4 (fun i hi => jy ((bq hsp).2 i (by omega))) h1 (fun i hi h0 => hsm i hi h0))
 have HMB : Hid (∀ i, i ≤ L.length → (dV (bV L S) (L.map (·.1)) r ids s i).many + 13 ^ r ≤ 100000000) := yz (fun i hi => by
  have h1 := lQ (bV L S) (L.map (·.1)) (by omega) r ids s i (by omega)
  have h2 : i * 13 ^ r ≤ 12 * 13 ^ r := Nat.mul_le_mul_right _ (by omega)
  rw [Nat.pow_succ] at hmany
  omega)
 have HCB : Hid (∀ i, i ≤ L.length → (dV (bV L S) (L.map (·.1)) r ids s i).count ≤ 6) := yz (fun i hi => lS (bV L S) (L.map (·.1)) r ids s hc6 (by omega) i (by omega))
 have hc := eU ids
 have hkm : ids.length + 1 ≤ S.length := by omega
 have hk6 : ids.length ≤ 6 := by omega
 have hq : ¬ (aJ ids + S.length - ids.length < s.count) := by omega
 obtain ⟨⟨v, h1, h2⟩, hf, hs, hd, a1, a2⟩ := hst
 obtain ⟨c0, c1, c2, c3, c4⟩ := h1
 have r1 := cell_regrown c1
 have r3 := cell_regrown c3
 clear h2 hf hs hd a1 a2 c0 c1 c2 c3 c4 hI ih he hsm hmany hp
 have hq' : ¬ (aJ ids : Int) + (S.length : Int) - (ids.length : Int) < (s.count : Int) := by omega
 have hne : ¬ (ids.length : Int) = (S.length : Int) := by omega
 have e31 : ((ids.length : Int) == (S.length : Int)) = false := by rw [beq_eq_false_iff_ne]; exact hne
 go_enter Tryz.func100, Tryz.ntmps100
 go_wp2_with fail
 refine wp_region_quiet_below (by kernel_rfl) (by kernel_rfl) ?_
 repeat (go_big_quiet_step (fail))
 refine wpQuiet_nil ?_
 intro _ hw'
 obtain ⟨⟨dq, osq⟩, hw''⟩ := hw'
 subst hw''
 have hx := below_regrown w dq osq
 generalize grow (redrawn w dq) osq = w1 at hx ⊢
 have S1 := yz ((yy HS).kept hx)
 have I1 := yz ((yy HI0).grown (bH (x := x) hx))
 have G1 := yz (bH (x := x) hx)
 clear hx r1 r3 HS
 obtain ⟨⟨v, h1, h2⟩, hf, hs, hd, a1, a2⟩ := yy S1
 obtain ⟨c0, c1, c2, c3, c4⟩ := h1
 clear h2 hf hs hd a1 a2
 go_wp2_with fail
 go_loopw [7] (fun i wr => ∃ k : Nat, k ≤ L.length ∧ i = .int .i64 k ∧ Hid (gD wr x L S ar br cr dr (dV (bV L S) (L.map (·.1)) r ids s k)) ∧ Hid (w.grownBy wr (some x))) (fun i _ => L.length - (intOf i).toNat)
 case atStart => exact ⟨0, Nat.zero_le _, rfl, yz (by rw [lR]; exact yy S1), G1⟩
 case round =>
  clear c0 c1 c2 c3 c4 S1 G1 I1
  obtain ⟨k, hkl, rfl, HSt, HG⟩ := hrel
  have HI := yz ((yy HI0).grown (yy HG))
  obtain ⟨⟨v, h1, h2⟩, hf, hs, hd, a1, a2⟩ := yy HSt
  obtain ⟨c0, c1, c2, c3, c4⟩ := h1
  by_cases hkn : k < L.length
  ·obtain ⟨⟨s1, s2, s3, s4⟩, hst⟩ : ∃ q, stA L k = q := ⟨_, rfl⟩
   have hsm1 := mz hk hkn
   have HMA : Hid ((L.map (·.1)).getD k 0 = s1) := yz (by rw [tM hkn, hst])
   rw [hst] at hsm1
   have HST := yz hst
   have hkn2 : (k : Int) < (L.length : Int) := by omega
   rcases hs with hs | ⟨b, o, rfl, hb, hcs⟩
   ·omega
   have d0 := (hcs k hkn).1
   rw [hst] at d0
   have HS2 : Hid (aH wr (some ⟨b, o, none⟩) L L.length) := yz (.inr ⟨b, o, rfl, hb, hcs⟩)
   have HD2 := yz hd
   have cFi := yz (fun (W : World) (hB : Below wr.heap.size wr W) => yy cF s1 W hsm1.1 ((yy HS2).kept hB) ((yy HD2).kept hB) ((yy HI).nums.kept hB))
   have HS1 := yz hsm1
   clear hcs hst h2 hf hd a1 a2 hsm1
   go_wp2_with fail
   have q0 := cell_regrown c0
   have q1 := cell_regrown c1
   have hkd : (ids.length : Int) + 1 ≤ (dr : Int) := by omega
   cases hfit : bV L S ids s1
   ·rw [hfit] at cFi
    refine wp_region_quiet_below (by kernel_rfl) (by kernel_rfl) ?_
    repeat (go_big_quiet_step (first | (with_reducible exact Calls.regrown_of (yy cFi _ (below_regrown _ _ _)))))
    refine wpQuiet_nil ?_
    intro _ hw'
    obtain ⟨⟨dq2, osq2⟩, hw''⟩ := hw'
    subst hw''
    have hx := below_regrown wr dq2 osq2
    generalize grow (redrawn wr dq2) osq2 = W2 at hx ⊢
    have HR : Hid (dV (bV L S) (L.map (·.1)) r ids s (k + 1) = dV (bV L S) (L.map (·.1)) r ids s k) := yz (by rw [gn _ _ _ _ _ (by omega), yy HMA, hfit]; rfl)
    have S5 : Hid (gD W2 x L S (some ⟨b, o, none⟩) br cr dr (dV (bV L S) (L.map (·.1)) r ids s (k + 1))) := yz (by rw [yy HR]; exact (yy HSt).kept hx)
    have G5 := yz (fw (yy HG) (bH (x := x) hx))
    clear hx c0 c1 c2 c3 c4 d0 q0 q1 HSt HG HI cFi
    go_wp2_with fail
    go_roundw
    case rel => first | exact ⟨k + 1, by omega, by go_num, S5, G5⟩ | exact ⟨k + 1, by omega, by go_num, S5⟩
    case measure => simp [intOf]; omega
   ·rw [hfit] at cFi
    refine wp_region_quiet_below (by kernel_rfl) (by kernel_rfl) ?_
    repeat (go_big_quiet_step (first | (with_reducible exact Calls.regrown_of (yy cFi _ (below_regrown _ _ _)))))
    refine wpQuiet_nil ?_
    intro _ hw'
    obtain ⟨⟨dq2, osq2⟩, hw''⟩ := hw'
    subst hw''
    have hx := below_regrown wr dq2 osq2
    generalize grow (redrawn wr dq2) osq2 = W2 at hx ⊢
    have HR : Hid (dV (bV L S) (L.map (·.1)) r ids s (k + 1) = dx (bV L S) (L.map (·.1)) r (ids ++ [s1]) (dV (bV L S) (L.map (·.1)) r ids s k)) := yz (by rw [gn _ _ _ _ _ (by omega), yy HMA, hfit]; rfl)
    replace HSt := yz ((yy HSt).kept hx)
    replace HG := yz (fw (yy HG) (bH (x := x) hx))
    replace HI := yz ((yy HI).grown (bH (x := x) hx))
    clear hx c0 c1 c2 c3 c4 d0 q0 q1 cFi HS2 HD2
    have hlx : x < W2.heap.size := by obtain ⟨⟨_, hh, _⟩, _⟩ := yy HSt; exact hh.lt
    have HN := yz (fQ W2 W2.heap.size (Nat.le_refl _))
    have IA := yz ((yy HI).grown (bH (x := x) (an W2 (.cells #[] 2))))
    go_wp2_with (at_builtin; refine ey _ rfl _ _ rfl W2.heap.size W2.heap.size rfl (yy HN) x ir er ids rfl (yy HE) (yy IA) hk6 ?d1 ?_)
    try case d1 => simp
    intro v1 V1 ho1 hg1
    obtain ⟨av, cv, rfl⟩ := eM ho1
    have HB1 : Hid (Below W2.heap.size W2 V1) := yz ((an W2 (.cells #[] 2)).trans ⟨hg1.os, hg1.tape, hg1.output, hg1.size, fun k hk' => hg1.block k (by simp; omega) (fun e => by have := Option.some.inj e; omega)⟩)
    have O4 := yz (uD ho1 (an V1 (.cells #[.int .i64 s1] 2)))
    have HC1 : Hid ((V1.alloc (.cells #[.int .i64 s1] 2)).cell? ⟨V1.heap.size, 0, none⟩ = some (.int .i64 s1)) := yz (by simp)
    clear ho1 hg1 IA HN
    go_wp2_with (at_builtin; refine hH _ rfl _ _ rfl W2.heap.size (.slice av ids.length cv) ids rfl (yy O4) V1.heap.size s1 rfl (yy HC1) hk6 ?d2 ?_)
    try case d2 => have := (yy HB1).size; simp; omega
    intro v2 V2 ho2 hg2
    obtain ⟨aw, cw, rfl⟩ := eM ho2
    have hrow : ∀ g, Value.ownBlock (.slice av ids.length cv) = some g → W2.heap.size ≤ g := fun g e => tY (yy O4) g e
    have hB2 : Below W2.heap.size W2 V2 := (aj (yy HB1) (an V1 (.cells #[.int .i64 s1] 2))).trans ⟨hg2.os, hg2.tape, hg2.output, by have := (yy HB1).size; have := hg2.size; simp at this ⊢; omega, fun k hk' => hg2.block k (by have := (yy HB1).size; simp; omega) (fun e => by have := hrow k e.symm; omega)⟩
    have S5 := yz ((yy HSt).kept hB2)
    have G5 := yz (fw (yy HG) (bH (x := x) hB2))
    have I5 := yz (rE (ids := ids ++ [s1]) (by rw [List.length_append, List.length_singleton]; exact ho2) hlx)
    have E5 := yz (qa ho2)
    have M5 := yz (mr (yy HSM) (fun _ => (yy HS1).1))
    have C5 : Hid ((aJ (ids ++ [s1]) : Int) = (aJ ids : Int) + 1) := yz (by rw [fN]; rw [if_pos (yy HS1).2]; omega)
    clear ho2 hg2 hrow hB2 HB1 O4 HC1 HSt HI HG hlx
    have cI := yz (fun (h1 : _) (h2 : _) => yy HIH (ids ++ [s1]) (dV (bV L S) (L.map (·.1)) r ids s k) aw cw V2 (by rw [List.length_append, List.length_singleton]; omega) (yy M5) h1 h2 (yy E5) (yy I5) (yy S5))
    rw [yy C5, List.length_append, List.length_singleton] at cI
    go_wp2_with fail
    refine (yy cI (yy HMB k (by omega)) (yy HCB k (by omega))).mono ?_
    rintro e W6 ⟨⟨ve, rfl⟩, hS6, hG6⟩
    have S6 : Hid (gD W6 x L S (some ⟨b, o, none⟩) br cr dr (dV (bV L S) (L.map (·.1)) r ids s (k + 1))) := yz (by rw [yy HR]; exact hS6)
    have G6 := yz (fw (yy G5) hG6)
    clear hS6 hG6 S5 G5 I5 E5 M5 C5 cI
    go_wp2_with fail
    go_roundw
    case rel => first | exact ⟨k + 1, by omega, by go_num, S6, G6⟩ | exact ⟨k + 1, by omega, by go_num, S6⟩ | exact ⟨.int .i64 ((k : Int) + 1), _, _, _, _, _, _, _, _, _, _, _, _, _, _, _, _, _, _, _, _, _, _, _, _, _, _, _, _, _, _, _, _, _, _, _, _, _, _, _, _, _, _, ⟨k + 1, by omega, by go_num, S6, G6⟩, rfl⟩
    case measure => simp [intOf]; omega
  ·obtain rfl : k = L.length := by omega
   clear h2 hf hs hd a1 a2
   have hlx : x < wr.heap.size := by obtain ⟨⟨_, hh, _⟩, _⟩ := yy HSt; exact hh.lt
   have HN := yz (fQ wr wr.heap.size (Nat.le_refl _))
   have IA := yz ((yy HI).grown (bH (x := x) (an wr (.cells #[] 2))))
   go_wp2_with (at_builtin; (refine ey _ rfl _ _ rfl wr.heap.size wr.heap.size rfl (yy HN) x ir er ids rfl (yy HE) (yy IA) hk6 ?d3 ?_))
   try case d3 => simp
   intro v1 V1 ho1 hg1
   obtain ⟨av, cv, rfl⟩ := eM ho1
   have HB1 : Hid (Below wr.heap.size wr V1) := yz ((an wr (.cells #[] 2)).trans ⟨hg1.os, hg1.tape, hg1.output, hg1.size, fun k hk' => hg1.block k (by simp; omega) (fun e => by have := Option.some.inj e; omega)⟩)
   have O4 := yz (uD ho1 (an V1 (.cells #[.int .i64 0] 2)))
   have HC1 : Hid ((V1.alloc (.cells #[.int .i64 0] 2)).cell? ⟨V1.heap.size, 0, none⟩ = some (.int .i64 0)) := yz (by simp)
   clear ho1 hg1 IA HN
   go_wp2_with (at_builtin; refine hH _ rfl _ _ rfl wr.heap.size (.slice av ids.length cv) ids rfl (yy O4) V1.heap.size 0 rfl (yy HC1) hk6 ?d4 ?_)
   try case d4 => have := (yy HB1).size; simp; omega
   intro v2 V2 ho2 hg2
   obtain ⟨aw, cw, rfl⟩ := eM ho2
   have hrow : ∀ g, Value.ownBlock (.slice av ids.length cv) = some g → wr.heap.size ≤ g := fun g e => tY (yy O4) g e
   have hB2 : Below wr.heap.size wr V2 := (aj (yy HB1) (an V1 (.cells #[.int .i64 0] 2))).trans ⟨hg2.os, hg2.tape, hg2.output, by have := (yy HB1).size; have := hg2.size; simp at this ⊢; omega, fun k hk' => hg2.block k (by have := (yy HB1).size; simp; omega) (fun e => by have := hrow k e.symm; omega)⟩
   have S5 := yz ((yy HSt).kept hB2)
   have G5 := yz (fw (yy HG) (bH (x := x) hB2))
   have I5 := yz (rE (ids := ids ++ [0]) (by rw [List.length_append, List.length_singleton]; exact ho2) hlx)
   have E5 := yz (qa ho2)
   have M5 := yz (mr (yy HSM) (fun h => absurd rfl h))
   have C5 : Hid ((aJ (ids ++ [0]) : Int) = (aJ ids : Int)) := yz (by rw [fN]; simp)
   clear ho2 hg2 hrow hB2 HB1 O4 HC1 HSt HI HG hlx
   have cI := yz (fun (h1 : _) (h2 : _) => yy HIH (ids ++ [0]) (dV (bV L S) (L.map (·.1)) r ids s L.length) aw cw V2 (by rw [List.length_append, List.length_singleton]; omega) (yy M5) h1 h2 (yy E5) (yy I5) (yy S5))
   rw [yy C5, List.length_append, List.length_singleton] at cI
   go_wp2_with fail
   refine (yy cI (yy HMB _ (Nat.le_refl _)) (yy HCB _ (Nat.le_refl _))).mono ?_
   rintro e W6 ⟨⟨ve, rfl⟩, hS6, hG6⟩
   have S6 := yz hS6
   have G6 := yz (fw (yy G5) hG6)
   clear hS6 hG6 S5 G5 I5 E5 M5 C5 cI
   go_wp2_with fail
   go_end0
   refine ⟨⟨_, rfl⟩, ?_, yy G6⟩
   rw [yy HF, hAl]
   exact yy S6
end
end Go.Proofs.YtgiodlllokdcdaaGreatDoor
