/- Several texts in one: TfB. -/
import Derived.Test.YtgiodlllokdcdaaGreatDoorQFnModeOwn14
import Derived.Test.YtgiodlllokdcdaaGreatDoorQFnModeOwn7
import Derived.Test.YtgiodlllokdcdaaGreatDoorQFnModeOwn30
namespace Go.Proofs.YtgiodlllokdcdaaGreatDoor
set_option linter.unusedVariables false
set_option linter.unusedSimpArgs false
set_option maxRecDepth 100000
set_option maxHeartbeats 8000000
section
open Go.RowKit Go.Sort
def fp (L : List St) (S : List D3) (ids : List Int) (t : T4) (n : Nat) : Prop := ∀ j, j < n → (decide (ids.getD j 0 = 0) || bQ t (bn L S ids j)) = true
theorem mY {L : List St} {S : List D3} {ids : List Int} {t : T4} {n : Nat} (h : fp L S ids t n) (h1 : (decide (ids.getD n 0 = 0) || bQ t (bn L S ids n)) = true) : fp L S ids t (n + 1) := fun l hl => by
 by_cases e : l = n
 ·rw [e]; exact h1
 ·exact h l (by omega)
theorem mP (L : List St) (S : List D3) (ids : List Int) (t : T4) (k : Nat) (ar br ir : Option Addr) (cr dr er : Nat) (w : World) (hk6 : k ≤ 6) (hn : L.length ≤ 12) (ht : aC t.1 t.2.1 t.2.2.1 t.2.2.2 = true) (hS : aH w ar L L.length) (hD : co w br S k) (hI : eP w ir ids k)
  (hids : ∀ i, i < k → ids.getD i 0 ≠ 0 → aL (atV L L.length (ids.getD i 0)).1 (atV L L.length (ids.getD i 0)).2.1 (atV L L.length (ids.getD i 0)).2.2 = true ∧ fX (vA S i) = true) :
  Calls Tryz.prog 102 #[.slice ar L.length cr, .slice br k dr, .slice ir k er, .agg #[.int .i64 t.1, .int .i64 t.2.1, .int .i64 t.2.2.1, .int .i64 t.2.2.2]] w fun e w' => e = .returned (.bool (fa L S ids t k)) ∧ Below w.heap.size w w' := by
 have cA := yz (fun (W : World) (q : Int) hW => nC L L.length q ar cr W (by omega) hW)
 have HNO : Hid (∀ i, i < k → (decide (ids.getD i 0 = 0) || bQ t (bn L S ids i)) = false → fa L S ids t k = false) := yz (fun i hi h => rj hi h)
 have HYE : Hid (fp L S ids t k → fa L S ids t k = true) := yz (fun h => qn h)
 have HST : Hid (∀ n, fp L S ids t n → (decide (ids.getD n 0 = 0) || bQ t (bn L S ids n)) = true → fp L S ids t (n + 1)) := yz (fun n h h1 => mY h h1)
 have H0 : Hid (fp L S ids t 0) := yz (fun j hj => absurd hj (Nat.not_lt_zero _))
 have HBR : Hid (∀ i, bQ t (bn L S ids i) = bg (vA S i) (apD t.1 t.2.1 t.2.2.1 t.2.2.2 (atV L L.length (ids.getD i 0)))) := yz (fun i => rfl)
 have HDS := yz hids
 have HT := yz ht
 have HS := yz hS
 have HD := yz hD
 clear hS hD hids ht
 generalize fa L S ids t k = R at *
 generalize fp L S ids t = TT at *
 generalize bQ t = br' at *
 obtain ⟨t1, t2, t3, t4⟩ := t
 simp only at HT HBR ⊢
 generalize L.length = n at *
 have V0 := yz (aO w t1 t2 t3 t4 25)
 have B0 := yz (an w (.cells #[.int .i64 t1, .int .i64 t2, .int .i64 t3, .int .i64 t4] 25))
 rcases hI with rfl | ⟨ib, io, rfl, hib, hic⟩
 ·have HY := yz (yy HYE (yy H0))
  go_enter Tryz.func102, Tryz.ntmps102
  go_wp2_with fail
  refine wp_loop_rounds 1 ?_
  rw [rounds_succ]
  go_wp2_with fail
  go_ret
  exact ⟨by rw [yy HY]; rfl, yy B0⟩
 have HIC := yz hic
 clear hic
 go_enter Tryz.func102, Tryz.ntmps102
 go_wp2_with fail
 go_loopw [9] (fun kk wr => ∃ i : Nat, i ≤ k ∧ kk = .int .i64 i ∧ Hid (TT i) ∧ Hid (aI wr w.heap.size t1 t2 t3 t4) ∧ Hid (Below w.heap.size w wr)) (fun kk _ => k - (intOf kk).toNat)
 case atStart => exact ⟨0, by omega, rfl, H0, V0, B0⟩
 case round =>
  clear V0 B0
  obtain ⟨i, hi, rfl, HF, HV, HB⟩ := hrel
  by_cases hik : i < k
  ·have hik2 : (i : Int) < (k : Int) := by omega
   have ci : wr.cell? ⟨ib, io + i, none⟩ = some (.int .i64 (ids.getD i 0)) := by rw [(yy HB).cell (p := ⟨ib, io + i, none⟩) hib]; exact yy HIC i hik
   have HSTi := yz (yy HST i (yy HF))
   have HNOi := yz (yy HNO i hik)
   have hds := yy HDS i hik
   rw [yy HBR i] at HSTi HNOi
   generalize ids.getD i 0 = x at *
   by_cases hx0 : x = 0
   ·subst hx0
    have HF2 := yz (yy HSTi rfl)
    have ri := cell_regrown ci
    clear ci
    have hnz : ((0 : Int) == 0) = true := rfl
    have hnz2 : decide ((0 : Int) ≠ 0) = false := by decide
    go_wp2_with fail
    refine wp_region_quiet_below (by kernel_rfl) (by kernel_rfl) ?_
    repeat (go_big_quiet_step (fail))
    refine wpQuiet_nil ?_
    intro _ hw'
    obtain ⟨⟨dq, osq⟩, hw''⟩ := hw'
    subst hw''
    have hx := below_regrown wr dq osq
    have HB5 := yz (aj (yy HB) hx)
    have HV5 := yz ((yy HV).kept (yy HV).lt hx)
    generalize grow (redrawn wr dq) osq = W5 at hx HB5 HV5 ⊢
    clear hx ri HB HV
    go_wp2_with fail
    go_roundw
    case rel => exact ⟨i + 1, by omega, by go_num, HF2, HV5, HB5⟩
    case measure => simp [intOf] <;> omega
   have hx0' : (x == 0) = false := by simp [hx0]
   have hx1' : (x != 0) = true := by simp [hx0]
   obtain ⟨hsm, hwd⟩ := hds hx0
   rw [decide_eq_false hx0, Bool.false_or] at HSTi HNOi
   have cAx := yz (fun (W : World) hW => yy cA W x hW)
   rcases yy HD with h | ⟨bb, bo, rfl, hbb, hbc⟩
   ·omega
   have hsp := (hbc i hik).kept hbb (yy HB)
   clear hbc
   generalize vA S i = sv at *
   generalize atV L n x = q at *
   have cP := yz (fun W => gQ t1 t2 t3 t4 q W (yy HT) hsm)
   have cQ := yz (fun W => gP (apD t1 t2 t3 t4 q) sv W (lk (yy HT) hsm) (jP hwd))
   clear hds hsm hwd
   generalize bg sv (apD t1 t2 t3 t4 q) = sm at *
   generalize apD t1 t2 t3 t4 q = r at *
   obtain ⟨q1, q2, q3⟩ := q
   obtain ⟨r1, r2, r3⟩ := r
   obtain ⟨v1, v2, v3⟩ := sv
   unfold rl at cAx
   simp only at cAx cP cQ
   obtain ⟨c0, c1, c2⟩ := hsp
   simp only at c0 c1 c2
   obtain ⟨y0, y1, y2, y3⟩ := yy HV
   have ri := cell_regrown ci
   have rc0 := cell_regrown c0
   have rc1 := cell_regrown c1
   have rc2 := cell_regrown c2
   have ry0 := cell_regrown y0
   have ry1 := cell_regrown y1
   have ry2 := cell_regrown y2
   have ry3 := cell_regrown y3
   clear ci c0 c1 c2 y0 y1 y2 y3
   have HS1 := yz ((yy HS).kept (yy HB))
   go_wp2_with fail
   refine wp_region_quiet_below (by kernel_rfl) (by kernel_rfl) ?_
   repeat (go_big_quiet_step (first | (with_reducible exact Calls.regrown_of (yy cAx _ ((yy HS1).kept (below_regrown _ _ _)))) | (with_reducible exact Calls.regrown_of (yy cP _)) | (with_reducible exact Calls.regrown_of (yy cQ _))))
   refine wpQuiet_nil ?_
   intro _ hw'
   obtain ⟨⟨dq, osq⟩, hw''⟩ := hw'
   subst hw''
   have hx := below_regrown wr dq osq
   have HB5 := yz (aj (yy HB) hx)
   have HV5 := yz ((yy HV).kept (yy HV).lt hx)
   generalize grow (redrawn wr dq) osq = W5 at hx HB5 HV5 ⊢
   clear hx ri rc0 rc1 rc2 ry0 ry1 ry2 ry3 cAx cP cQ HB HV HS1
   cases sm
   ·have HN := yz (yy HNOi rfl)
    go_wp2_with fail
    go_ret
    exact ⟨by rw [yy HN]; rfl, yy HB5⟩
   ·have HF2 := yz (yy HSTi rfl)
    go_wp2_with fail
    go_roundw
    case rel => exact ⟨i + 1, by omega, by go_num, HF2, HV5, HB5⟩
    case measure => simp [intOf] <;> omega
  ·have hik' : i = k := by omega
   subst hik'
   have HY := yz (yy HYE (yy HF))
   go_wp2_with fail
   go_ret
   exact ⟨by rw [yy HY]; rfl, yy HB⟩
def oc (ids : List Int) : Nat → Nat
 | 0 => 0
 | k + 1 => oc ids k + if ids.getD k 0 ≠ 0 then 1 else 0
theorem rq (L : List St) (S : List D3) (ids : List Int) : ∀ k, oc ids k = (au L S ids k).length
 | 0 => rfl
 | k + 1 => by
  have ih := rq L S ids k
  show oc ids k + (if ids.getD k 0 ≠ 0 then 1 else 0) = _
  rw [jF, ih]
theorem rr (ids : List Int) : ∀ k, oc ids k ≤ k
 | 0 => Nat.le_refl _
 | k + 1 => by
  have ih := rr ids k
  show oc ids k + (if ids.getD k 0 ≠ 0 then 1 else 0) ≤ k + 1
  split <;> omega
theorem qJ (L : List St) (S : List D3) (ids : List Int) (ar br ir : Option Addr) (cr dr er : Nat) (w : World) (hN : be L S ids = true) (hS : aH w ar L L.length) (hD : co w br S S.length) (hI : eP w ir ids ids.length) :
  Calls Tryz.prog 75 #[.slice ar L.length cr, .slice br S.length dr, .slice ir ids.length er] w fun e w' => e = .returned (outV (if (au L S ids ids.length).length < 2 then ((0, 0, 0, 0), 10) else dF (au L S ids ids.length) (az 625))) ∧ Below w.heap.size w w' := by
 obtain ⟨g1, g2, g3, _⟩ := dm hN
 have hm6 := (bq g2).1
 have hn12 := (cx g1).1
 have cU : Hid (∀ (t : T4) (W : World), aC t.1 t.2.1 t.2.2.1 t.2.2.2 = true → aH W ar L L.length → co W br S ids.length → eP W ir ids ids.length → Calls Tryz.prog 102 #[.slice ar L.length cr, .slice br ids.length dr, .slice ir ids.length er, .agg #[.int .i64 t.1, .int .i64 t.2.1, .int .i64 t.2.2.1, .int .i64 t.2.2.2]] W fun e w' => e = .returned (.bool (bN (au L S ids ids.length) t)) ∧ Below W.heap.size W w') := yz (fun t W ht h1 h2 h3 => by
  rw [← nR]
  exact mP L S ids t ids.length ar br ir cr dr er W (by omega) hn12 ht h1 h2 h3 (fun i hi h0 => lW hN hi h0))
 have HCE := yz (rq L S ids ids.length)
 have cT : Hid (∀ W : World, Calls Tryz.prog 101 #[] W fun e w' => ∃ g c, e = .returned (.slice (some ⟨g, 0, none⟩) (az 625).length c) ∧ gE w' g (az 625) ∧ Below W.heap.size W w') := yz (fun W => (mX W).mono fun e w' h => by
  obtain ⟨⟨v, he, ho⟩, hb⟩ := h
  obtain ⟨g, c, rfl, hg, ht⟩ := nQ ho mD
  exact ⟨g, c, he, ht, hb⟩)
 have HTR : Hid (∀ k, k < (az 625).length → aC (tA (az 625) k).1 (tA (az 625) k).2.1 (tA (az 625) k).2.2.1 (tA (az 625) k).2.2.2 = true) := yz (fun k hk => gZ hk)
 have hTL := iE 625
 have HS := yz hS
 have HD := yz hD
 clear hS hD hN g1 g2
 rw [← g3] at HD hm6
 rw [← g3]
 clear g3
 generalize au L S ids ids.length = A at *
 have HF1 : Hid (∀ k, k < (az 625).length → (∀ j, j < k → bN A (tA (az 625) j) = false) → bN A (tA (az 625) k) = true → dF A (az 625) = (tA (az 625) k, 0)) := yz (fun k hk h h1 => pw hk h h1)
 have HF2 : Hid ((∀ j, j < (az 625).length → bN A (tA (az 625) j) = false) → dF A (az 625) = ((0, 0, 0, 0), 6)) := yz lx
 generalize az 625 = T at *
 generalize hlt : T.length = tn at *
 have HTL := yz hlt
 clear hlt
 generalize L.length = n at *
 generalize A.length = al at *
 obtain ⟨RV, hRV⟩ : ∃ r, r = (if al < 2 then ((0, 0, 0, 0), 10) else dF A T) := ⟨_, rfl⟩
 rw [← hRV]
 have HRA : Hid (al < 2 → RV = ((0, 0, 0, 0), 10)) := yz (fun h => by rw [hRV, if_pos h])
 have HRB : Hid (¬ al < 2 → RV = dF A T) := yz (fun h => by rw [hRV, if_neg h])
 clear hRV
 have HI := yz hI
 clear hI
 generalize ids.length = k at *
 have R0 := yz (aD w [.int .i64 0, .int .i64 0, .int .i64 0, .int .i64 0, .int .i64 0] 48)
 have B0 := yz (an w (.cells #[.int .i64 0, .int .i64 0, .int .i64 0, .int .i64 0, .int .i64 0] 48))
 go_enter Tryz.func75, Tryz.ntmps75
 go_wp2_with fail
 generalize w.alloc (.cells #[.int .i64 0, .int .i64 0, .int .i64 0, .int .i64 0, .int .i64 0] 48) = W0 at R0 B0 ⊢
 go_loopw [7, 8] (fun c kk wr => ∃ i : Nat, i ≤ k ∧ kk = .int .i64 i ∧ c = .int .i64 (oc ids i : Int) ∧ wr = W0) (fun _ kk _ => k - (intOf kk).toNat)
 case atStart => exact ⟨0, by omega, rfl, rfl, rfl⟩
 case round =>
  obtain ⟨i, hi, rfl, rfl, rfl⟩ := hrel
  by_cases hik : i < k
  ·have hik2 : (i : Int) < (k : Int) := by omega
   rcases yy HI with h | ⟨ib, io, rfl, hib, hic⟩
   ·omega
   have ci : wr.cell? ⟨ib, io + i, none⟩ = some (.int .i64 (ids.getD i 0)) := by rw [(yy B0).cell (p := ⟨ib, io + i, none⟩) hib]; exact hic i hik
   clear hic
   have HCN : Hid (oc ids (i + 1) = oc ids i + if ids.getD i 0 ≠ 0 then 1 else 0) := yz rfl
   have hcl := rr ids i
   generalize ids.getD i 0 = x at *
   generalize hci : oc ids i = ct at *
   clear hci
   by_cases hx0 : x = 0
   ·subst hx0
    rw [if_neg (by simp)] at HCN
    go_wp2_with fail
    go_roundw
    case rel => exact ⟨i + 1, by omega, by go_num, by rw [yy HCN]; rfl, by first | rfl | trivial⟩
    case measure => simp [intOf] <;> omega
   ·have hx0' : (x == 0) = false := by simp [hx0]
    rw [if_pos hx0] at HCN
    go_wp2_with fail
    go_roundw
    case rel => exact ⟨i + 1, by omega, by go_num, by rw [yy HCN]; go_num, by first | rfl | trivial⟩
    case measure => simp [intOf] <;> omega
  ·have hik' : i = k := by omega
   subst hik'
   rw [yy HCE]
   clear HCE
   by_cases h2 : al < 2
   ·have h2' : (al : Int) < 2 := by omega
    have HRV := yz (yy HRA h2)
    obtain ⟨r0, r1, r2, r3, r4⟩ := jj (yy R0)
    obtain ⟨f0, f1, f2, f3, f4⟩ := nZ (yy R0)
    go_wp2_with fail
    exact bodyPost_ret (v := .agg #[.int .i64 0, .int .i64 0, .int .i64 0, .int .i64 0, .int .i64 10]) (by simp [results, Tryz.results75, go_sem, r0, r1, r2, r3, r4]) rfl ⟨by rw [yy HRV]; rfl, dD (yy B0) (Nat.le_refl _) _ _ _ _ _⟩
   have h2' : ¬ (al : Int) < 2 := by omega
   have HR := yz (yy HRB h2)
   clear HRA HRB h2
   go_wp2_with fail
   refine (yy cT _).mono ?_
   rintro e W3 ⟨g, c3, rfl, ht, hx⟩
   have HT3 := yz ht
   have HR3 := yz ((yy R0).kept hx)
   have HB3 := yz (aj (yy B0) hx)
   clear ht hx R0 B0 cT
   go_wp2_with fail
   go_loopw [10] (fun kk wr => ∃ j : Nat, j ≤ tn ∧ kk = .int .i64 j ∧ Hid (∀ l, l < j → bN A (tA T l) = false) ∧ Hid (gE wr g T) ∧ Hid (Blk wr w.heap.size [.int .i64 0, .int .i64 0, .int .i64 0, .int .i64 0, .int .i64 0] 48) ∧ Hid (Below w.heap.size w wr)) (fun kk _ => tn - (intOf kk).toNat)
   case atStart => exact ⟨0, by omega, rfl, yz (fun j hj => absurd hj (Nat.not_lt_zero _)), HT3, HR3, HB3⟩
   case round =>
    clear HT3 HR3 HB3
    obtain ⟨j, hj, rfl, HF, HT, HRB, HB⟩ := hrel
    by_cases hjn : j < tn
    ·have hjn2 : (j : Int) < (tn : Int) := by omega
     obtain ⟨c0, c1, c2', c3'⟩ := (yy HT).2 j (by rw [yy HTL]; exact hjn)
     have htr := yy HTR j hjn
     have HF1j := yz (yy HF1 j hjn (yy HF))
     obtain ⟨t, ht⟩ : ∃ t, tA T j = t := ⟨_, rfl⟩
     rw [ht] at c0 c1 c2' c3' htr HF1j
     have HTE := yz ht
     clear ht
     have cEt := yz (fun W h1 h2 h3 => yy cU t W htr h1 h2 h3)
     clear htr
     have HEX : Hid (bN A (tA T j) = bN A t) := yz (by rw [yy HTE])
     generalize bN A t = ev at *
     obtain ⟨t1, t2, t3, t4⟩ := t
     simp only at c0 c1 c2' c3' cEt
     go_wp2_with fail
     refine (yy cEt _ ((yy HS).kept (yy HB)) ((yy HD).kept (yy HB)) ((yy HI).kept (yy HB))).mono ?_
     rintro e W5 ⟨rfl, hx⟩
     have HT2 := yz ((yy HT).kept hx)
     have HR2 := yz ((yy HRB).kept hx)
     have HB2 := yz (aj (yy HB) hx)
     have x0 := dE c0 hx
     have x1 := dE c1 hx
     have x2 := dE c2' hx
     have x3 := dE c3' hx
     clear hx HT HRB HB cEt c0 c1 c2' c3'
     cases ev
     ·clear x0 x1 x2 x3
      go_wp2_with fail
      go_roundw
      case rel => exact ⟨j + 1, by omega, by go_num, yz (fun l hl => by
       by_cases e : l = j
       ·rw [e]; exact yy HEX
       ·exact yy HF l (by omega)), HT2, HR2, HB2⟩
      case measure => simp [intOf]; omega
     ·have HRV : Hid (RV = ((t1, t2, t3, t4), 0)) := yz (by rw [yy HR]; exact yy HF1j rfl)
      obtain ⟨r0, r1, r2, r3, r4⟩ := jj (yy HR2)
      obtain ⟨f0, f1, f2, f3, f4⟩ := nZ (yy HR2)
      go_wp2_with fail
      exact bodyPost_ret (v := .agg #[.int .i64 t1, .int .i64 t2, .int .i64 t3, .int .i64 t4, .int .i64 0]) (by simp [results, Tryz.results75, go_sem, r0, r1, r2, r3, r4]) rfl ⟨by rw [yy HRV]; rfl, dD (yy HB2) (Nat.le_refl _) _ _ _ _ _⟩
    ·have hjn' : j = tn := by omega
     subst hjn'
     have HRV : Hid (RV = ((0, 0, 0, 0), 6)) := yz (by rw [yy HR]; exact yy HF2 (yy HF))
     obtain ⟨r0, r1, r2, r3, r4⟩ := jj (yy HRB)
     obtain ⟨f0, f1, f2, f3, f4⟩ := nZ (yy HRB)
     go_wp2_with fail
     exact bodyPost_ret (v := .agg #[.int .i64 0, .int .i64 0, .int .i64 0, .int .i64 0, .int .i64 6]) (by simp [results, Tryz.results75, go_sem, r0, r1, r2, r3, r4]) rfl ⟨by rw [yy HRV]; rfl, dD (yy HB) (Nat.le_refl _) _ _ _ _ _⟩
end
end Go.Proofs.YtgiodlllokdcdaaGreatDoor
