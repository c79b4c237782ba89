/- Several texts in one: TfA. -/
import Derived.Test.YtgiodlllokdcdaaGreatDoorQFnModeOwn6
import Derived.Test.YtgiodlllokdcdaaGreatDoorQFnModeOwn4
namespace Go.Proofs.YtgiodlllokdcdaaGreatDoor
set_option linter.unusedVariables false
set_option linter.unusedSimpArgs false
set_option maxRecDepth 100000
set_option maxHeartbeats 8000000
section
open Go.RowKit Go.Sort
theorem ot (A : List Sg) (n : Nat) (t : T4) (a : Option Addr) (c : Nat) (w : World) (hl : A.length = n) (hn : n ≤ 1048576) (ht : aC t.1 t.2.1 t.2.2.1 t.2.2.2 = true) (hsm : ∀ i, i < n → aL (sgA A i).2.2.1 (sgA A i).2.2.2.1 (sgA A i).2.2.2.2 = true) (hS : dQ w a A n) :
  Calls Tryz.prog 117 #[.agg #[.int .i64 t.1, .int .i64 t.2.1, .int .i64 t.2.2.1, .int .i64 t.2.2.2], .slice a n c] w fun e w' => e = .returned (.bool (bN A t)) ∧ Below w.heap.size w w' := by
 have HNO : Hid (∀ i, i < n → bQ t (sgA A i) = false → bN A t = false) := yz (fun i hi h => ur (by omega) h)
 have HYE : Hid ((∀ i, i < n → bQ t (sgA A i) = true) → bN A t = true) := yz (fun h => tu (by rw [hl]; exact h))
 have HSM := yz hsm
 have HT := yz ht
 have HBR : Hid (∀ s, bQ t s = bg s.1 (apD t.1 t.2.1 t.2.2.1 t.2.2.2 s.2.2)) := yz (fun s => rfl)
 clear hl hsm ht
 generalize bN A t = R at *
 generalize bQ t = br at *
 obtain ⟨t1, t2, t3, t4⟩ := t
 simp only at HT HBR ⊢
 have V0 := yz (aO w t1 t2 t3 t4 25)
 have B0 := yz (an w (.cells #[.int .i64 t1, .int .i64 t2, .int .i64 t3, .int .i64 t4] 25))
 rcases hS with rfl | ⟨b, o, rfl, hb, hc⟩
 ·have HY := yz (yy HYE (fun i hi => absurd hi (Nat.not_lt_zero _)))
  go_enter Tryz.func117, Tryz.ntmps117
  go_wp2_with fail
  refine wp_loop_rounds 1 ?_
  rw [rounds_succ]
  go_wp2_with fail
  go_ret
  exact ⟨by rw [yy HY]; rfl, yy B0⟩
 have HC := yz hc
 clear hc
 go_enter Tryz.func117, Tryz.ntmps117
 go_wp2_with fail
 go_loopw [9] (fun i wr => ∃ k : Nat, k ≤ n ∧ i = .int .i64 k ∧ Hid (∀ j, j < k → br (sgA A j) = true) ∧ Hid (Below w.heap.size w wr) ∧ Hid (aI wr w.heap.size t1 t2 t3 t4)) (fun i _ => n - (intOf i).toNat)
 case atStart => exact ⟨0, by omega, rfl, yz (fun j hj => absurd hj (Nat.not_lt_zero _)), B0, V0⟩
 case round =>
  clear B0 V0
  obtain ⟨k, hk, rfl, HF, HB, HV⟩ := hrel
  by_cases hkn : k < n
  ·have hkn2 : (k : Int) < (n : Int) := by omega
   have hsmk := yy HSM k hkn
   have HBK := yz (yy HBR (sgA A k))
   have HNK := yz (yy HNO k hkn)
   obtain ⟨s, hs⟩ : ∃ t, sgA A k = t := ⟨_, rfl⟩
   have hst := ((yy HC) k hkn).kept (yy HB)
   rw [hs] at hst hsmk HBK HNK
   have HSE := yz hs
   clear hs
   have cA := yz (fun W => kq t1 t2 t3 t4 s.2.2 W (yy HT) hsmk)
   clear hsmk
   have Z := an wr (.cells #[.int .i64 s.1.1, .int .i64 s.1.2.1, .int .i64 s.1.2.2, .int .i64 s.2.1, .int .i64 s.2.2.1, .int .i64 s.2.2.2.1, .int .i64 s.2.2.2.2] 166)
   have T1 := eo wr s 166
   have HB1 := yz (aj (yy HB) Z)
   have HV1 := yz ((yy HV).kept (yy HV).lt Z)
   clear Z HB HV
   generalize apD t1 t2 t3 t4 s.2.2 = q at *
   obtain ⟨q1, q2, q3⟩ := q
   obtain ⟨⟨b1, b2, b3⟩, b4, b5, b6, b7⟩ := s
   have cS : Hid (∀ W : World, Calls Tryz.prog 51 #[.agg #[.int .i64 b1, .int .i64 b2, .int .i64 b3], .agg #[.int .i64 q1, .int .i64 q2, .int .i64 q3]] W fun e w' => e = .returned (.bool (bg (b1, b2, b3) (q1, q2, q3))) ∧ Below W.heap.size W w') := yz (fun W => fE b1 b2 b3 q1 q2 q3 W)
   simp only at HBK cA T1 HB1 HV1
   generalize bg (b1, b2, b3) (q1, q2, q3) = sm at *
   obtain ⟨c0, c1, c2, c3, c4, c5, c6⟩ := hst
   simp only at c0 c1 c2 c3 c4 c5 c6
   go_wp2_with fail
   clear c0 c1 c2 c3 c4 c5 c6
   generalize wr.alloc (.cells #[.int .i64 b1, .int .i64 b2, .int .i64 b3, .int .i64 b4, .int .i64 b5, .int .i64 b6, .int .i64 b7] 166) = W4 at T1 HB1 HV1 ⊢
   generalize wr.heap.size = tb at *
   obtain ⟨x0, x1, x2, x3, x4, x5, x6⟩ := T1
   simp only [Nat.zero_add] at x0 x1 x2 x3 x4 x5 x6
   obtain ⟨y0, y1, y2, y3⟩ := yy HV1
   have r0 := cell_regrown x0
   have r1 := cell_regrown x1
   have r2 := cell_regrown x2
   have r4 := cell_regrown x4
   have r5 := cell_regrown x5
   have r6 := cell_regrown x6
   have s0 := cell_regrown y0
   have s1 := cell_regrown y1
   have s2 := cell_regrown y2
   have s3 := cell_regrown y3
   clear x0 x1 x2 x3 x4 x5 x6 y0 y1 y2 y3
   refine wp_region_quiet_below (by kernel_rfl) (by kernel_rfl) ?_
   repeat (go_big_quiet_step (first | (with_reducible exact Calls.regrown_of (yy cA _)) | (with_reducible exact Calls.regrown_of (yy cS _))))
   refine wpQuiet_nil ?_
   intro _ hw'
   obtain ⟨⟨dq, osq⟩, hw''⟩ := hw'
   subst hw''
   have hx := below_regrown W4 dq osq
   have HB5 := yz (aj (yy HB1) hx)
   have HV5 := yz ((yy HV1).kept (yy HV1).lt hx)
   generalize grow (redrawn W4 dq) osq = W5 at hx HB5 HV5 ⊢
   clear hx r0 r1 r2 r4 r5 r6 s0 s1 s2 s3 cA cS HB1 HV1
   cases sm
   ·have HN := yz (yy HNK (yy HBK))
    go_wp2_with fail
    go_ret
    exact ⟨by rw [yy HN]; rfl, yy HB5⟩
   ·have HOK : Hid (br (sgA A k) = true) := yz (by rw [yy HSE]; exact yy HBK)
    go_wp2_with fail
    go_roundw
    case rel => exact ⟨k + 1, by omega, by go_num, yz (fun l hl => by
     by_cases e : l = k
     ·rw [e]; exact yy HOK
     ·exact yy HF l (by omega)), HB5, HV5⟩
    case measure => simp [intOf]; omega
  ·have hkn' : k = n := by omega
   subst hkn'
   have HY := yz (yy HYE (yy HF))
   go_wp2_with fail
   go_ret
   exact ⟨by rw [yy HY]; rfl, yy HB⟩
def outV (r : T4 × Int) : Value := .agg #[.int .i64 r.1.1, .int .i64 r.1.2.1, .int .i64 r.1.2.2.1, .int .i64 r.1.2.2.2, .int .i64 r.2]
theorem dD {w w1 : World} {b : Nat} (h : Below w.heap.size w w1) (hb : w.heap.size ≤ b) (x y z u v : Value) : Below w.heap.size w (((((w1.setCell ⟨b, 0, none⟩ x).setCell ⟨b, 1, none⟩ y).setCell ⟨b, 2, none⟩ z).setCell ⟨b, 3, none⟩ u).setCell ⟨b, 4, none⟩ v) := ((((h.setCell hb _).setCell hb _).setCell hb _).setCell hb _).setCell hb _
theorem kP (L : List St) (S : List D3) (ids : List Int) (ar br ir : Option Addr) (cr dr er : Nat) (p : Addr) (w : World) (hn : L.length ≤ 1048576) (hcap : L.length ≤ cr) (hc9 : cr ≤ 9223372036854775807) (hn2 : S.length ≤ 1048576) (hcap2 : S.length ≤ dr) (hd9 : dr ≤ 9223372036854775807) (hn3 : ids.length ≤ 1048576) (hS : aH w ar L L.length) (hD : co w br S S.length) (hI : eP w ir ids ids.length) (hE : aY p w) :
  Calls Tryz.prog 96 #[.slice ar L.length cr, .slice br S.length dr, .slice ir ids.length er] w fun e w' => e = .returned (outV (fH L S ids)) ∧ Below w.heap.size w w' := by
 have cN := yz (fun (W : World) h1 h2 h3 h4 => mL L S ids ar br ir cr dr er p W hn hcap hc9 hn2 hcap2 hd9 hn3 h1 h2 h3 h4)
 have cO : Hid (be L S ids = true → ∀ W : World, aH W ar L L.length → co W br S S.length → eP W ir ids ids.length → aY p W → Calls Tryz.prog 115 #[.slice ar L.length cr, .slice br S.length dr, .slice ir ids.length er] W fun e w' => (∃ v, e = .returned v ∧ w'.ownsRow W.heap.size 166 7 v (au L S ids ids.length).length (bK (au L S ids ids.length))) ∧ Below W.heap.size W w') := yz (fun h W h1 h2 h3 h4 => by
  obtain ⟨g1, g2, g3, _⟩ := dm h
  exact jE L S ids ids.length ar br ir cr dr er p W g1 hn hcap hc9 (bq g2).1 g3 h1 h2 h3 h4)
 have HSM : Hid (be L S ids = true → ∀ i, i < (au L S ids ids.length).length → aL (sgA (au L S ids ids.length) i).2.2.1 (sgA (au L S ids ids.length) i).2.2.2.1 (sgA (au L S ids ids.length) i).2.2.2.2 = true) := yz (fun h i hi => qh h hi)
 have HAL : Hid (be L S ids = true → (au L S ids ids.length).length ≤ 6) := yz (fun h => by
  obtain ⟨g1, g2, g3, _⟩ := dm h
  have := fl L S ids ids.length
  have := (bq g2).1
  omega)
 have H1 : Hid (400 < L.length ∨ 400 < S.length ∨ 400 < ids.length → fH L S ids = ((0, 0, 0, 0), 2)) := yz tB
 have H2 : Hid (¬ (400 < L.length ∨ 400 < S.length ∨ 400 < ids.length) → be L S ids = false → fH L S ids = ((0, 0, 0, 0), 1)) := yz tz
 have H3 : Hid (¬ (400 < L.length ∨ 400 < S.length ∨ 400 < ids.length) → be L S ids = true → (au L S ids ids.length).length < 2 → fH L S ids = ((0, 0, 0, 0), 10)) := yz uu
 have H4 : Hid (¬ (400 < L.length ∨ 400 < S.length ∨ 400 < ids.length) → be L S ids = true → ¬ (au L S ids ids.length).length < 2 → fH L S ids = dF (au L S ids ids.length) (az 625)) := yz sh
 have HS := yz hS
 have HD := yz hD
 have HI := yz hI
 have HE := yz hE
 clear hS hD hI hE hcap hc9 hcap2 hd9
 generalize fH L S ids = R at *
 generalize be L S ids = nb at *
 generalize au L S ids ids.length = A at *
 generalize S.length = m at *
 generalize ids.length = k at *
 generalize L.length = n at *
 have R0 := aD w [.int .i64 0, .int .i64 0, .int .i64 0, .int .i64 0, .int .i64 0] 48
 have B0 := an w (.cells #[.int .i64 0, .int .i64 0, .int .i64 0, .int .i64 0, .int .i64 0] 48)
 by_cases hbig : 400 < n ∨ 400 < m ∨ 400 < k
 ·obtain rfl := yy H1 hbig
  have h' : 400 < n ∨ (¬ 400 < n ∧ 400 < m) ∨ (¬ 400 < n ∧ ¬ 400 < m ∧ 400 < k) := by omega
  rcases h' with h | ⟨h, h1⟩ | ⟨h, h1, h2⟩
  ·have g1 : decide ((400 : Int) < (n : Int)) = true := by simp; omega
   have g2 : (400 : Int) < (n : Int) := by omega
   go_enter Tryz.func96, Tryz.ntmps96
   go_wp2_with fail
   exact bodyPost_ret (v := .agg #[.int .i64 0, .int .i64 0, .int .i64 0, .int .i64 0, .int .i64 2]) (by simp [results, Tryz.results96, go_sem]) rfl ⟨rfl, an _ _⟩
  ·have g1 : decide ((400 : Int) < (n : Int)) = false := by simp; omega
   have g2 : ¬ (400 : Int) < (n : Int) := by omega
   have g3 : decide ((400 : Int) < (m : Int)) = true := by simp; omega
   have g4 : (400 : Int) < (m : Int) := by omega
   go_enter Tryz.func96, Tryz.ntmps96
   go_wp2_with fail
   exact bodyPost_ret (v := .agg #[.int .i64 0, .int .i64 0, .int .i64 0, .int .i64 0, .int .i64 2]) (by simp [results, Tryz.results96, go_sem]) rfl ⟨rfl, an _ _⟩
  ·have g1 : decide ((400 : Int) < (n : Int)) = false := by simp; omega
   have g2 : ¬ (400 : Int) < (n : Int) := by omega
   have g3 : decide ((400 : Int) < (m : Int)) = false := by simp; omega
   have g4 : ¬ (400 : Int) < (m : Int) := by omega
   have g5 : decide ((400 : Int) < (k : Int)) = true := by simp; omega
   have g6 : (400 : Int) < (k : Int) := by omega
   go_enter Tryz.func96, Tryz.ntmps96
   go_wp2_with fail
   exact bodyPost_ret (v := .agg #[.int .i64 0, .int .i64 0, .int .i64 0, .int .i64 0, .int .i64 2]) (by simp [results, Tryz.results96, go_sem]) rfl ⟨rfl, an _ _⟩
 have g1 : decide ((400 : Int) < (n : Int)) = false := by simp; omega
 have g2 : ¬ (400 : Int) < (n : Int) := by omega
 have g3 : decide ((400 : Int) < (m : Int)) = false := by simp; omega
 have g4 : ¬ (400 : Int) < (m : Int) := by omega
 have g5 : decide ((400 : Int) < (k : Int)) = false := by simp; omega
 have g6 : ¬ (400 : Int) < (k : Int) := by omega
 go_enter Tryz.func96, Tryz.ntmps96
 go_wp2_with fail
 generalize w.alloc (.cells #[.int .i64 0, .int .i64 0, .int .i64 0, .int .i64 0, .int .i64 0] 48) = W0 at R0 B0 ⊢
 refine (yy cN _ ((yy HS).kept B0) ((yy HD).kept B0) ((yy HI).kept B0) ((yy HE).kept B0)).mono ?_
 rintro e W1 ⟨rfl, hx⟩
 have R1 := R0.kept hx
 have B1 := aj B0 hx
 clear hx R0 B0
 cases nb
 ·obtain rfl := yy H2 hbig rfl
  obtain ⟨r0, r1, r2, r3, r4⟩ := jj (R1)
  obtain ⟨f0, f1, f2, f3, f4⟩ := nZ (R1)
  go_wp2_with fail
  exact bodyPost_ret (v := .agg #[.int .i64 0, .int .i64 0, .int .i64 0, .int .i64 0, .int .i64 1]) (by simp [results, Tryz.results96, go_sem, r0, r1, r2, r3, r4]) rfl ⟨rfl, dD B1 (Nat.le_refl _) _ _ _ _ _⟩
 have cO' := yz (yy cO rfl)
 have HSM' := yz (yy HSM rfl)
 have hal6 := yy HAL rfl
 have H3' := yz (yy H3 hbig rfl)
 have H4' := yz (yy H4 hbig rfl)
 clear cO HSM HAL H1 H2 H3 H4 cN hbig g1 g2 g3 g4 g5 g6
 go_wp2_with fail
 refine (yy cO' _ ((yy HS).kept B1) ((yy HD).kept B1) ((yy HI).kept B1) ((yy HE).kept B1)).mono ?_
 rintro e W2 ⟨⟨v2, rfl, ho⟩, hx⟩
 obtain ⟨a2, c2, rfl⟩ := tS ho
 have HSG := yz (iY ho)
 have R2 := R1.kept hx
 have B2 := aj B1 hx
 clear ho hx R1 B1 cO'
 by_cases h2 : A.length < 2
 ·obtain rfl := yy H3' h2
  have h2' : (A.length : Int) < 2 := by omega
  obtain ⟨r0, r1, r2, r3, r4⟩ := jj (R2)
  obtain ⟨f0, f1, f2, f3, f4⟩ := nZ (R2)
  go_wp2_with fail
  exact bodyPost_ret (v := .agg #[.int .i64 0, .int .i64 0, .int .i64 0, .int .i64 0, .int .i64 10]) (by simp [results, Tryz.results96, go_sem, r0, r1, r2, r3, r4]) rfl ⟨rfl, dD B2 (Nat.le_refl _) _ _ _ _ _⟩
 have h2' : ¬ (A.length : Int) < 2 := by omega
 have HR := yz (yy H4' h2)
 have cT : Hid (∀ W : World, Calls Tryz.prog 116 #[] W fun e w' => ∃ g c, e = .returned (.slice (some ⟨g, 0, none⟩) (az 625).length c) ∧ gE w' g (az 625) ∧ Below W.heap.size W w') := yz (fun W => (mN W).mono fun e w' h => by
  obtain ⟨⟨v, he, ho⟩, hb⟩ := h
  obtain ⟨g, c, rfl, hg, ht⟩ := nQ ho mD
  exact ⟨g, c, he, ht, hb⟩)
 have HTR : Hid (∀ k, k < (az 625).length → aC (tA (az 625) k).1 (tA (az 625) k).2.1 (tA (az 625) k).2.2.1 (tA (az 625) k).2.2.2 = true) := yz (fun k hk => gZ hk)
 have hTL := iE 625
 have cE : Hid (∀ (t : T4) (a : Option Addr) (W : World), aC t.1 t.2.1 t.2.2.1 t.2.2.2 = true → dQ W a A A.length → Calls Tryz.prog 117 #[.agg #[.int .i64 t.1, .int .i64 t.2.1, .int .i64 t.2.2.1, .int .i64 t.2.2.2], .slice a A.length c2] W fun e w' => e = .returned (.bool (bN A t)) ∧ Below W.heap.size W w') := yz (fun t a W ht hs => ot A A.length t a c2 W rfl (by omega) ht (yy HSM') hs)
 clear HSM' H3' H4' h2
 have HF1 : Hid (∀ k, k < (az 625).length → (∀ j, j < k → bN A (tA (az 625) j) = false) → bN A (tA (az 625) k) = true → dF A (az 625) = (tA (az 625) k, 0)) := yz (fun k hk h h1 => pw hk h h1)
 have HF2 : Hid ((∀ j, j < (az 625).length → bN A (tA (az 625) j) = false) → dF A (az 625) = ((0, 0, 0, 0), 6)) := yz lx
 generalize az 625 = T at *
 generalize hlt : T.length = tn at *
 have HTL := yz hlt
 clear hlt
 generalize A.length = al at *
 go_wp2_with fail
 refine (yy cT _).mono ?_
 rintro e W3 ⟨g, c3, rfl, ht, hx⟩
 have HT3 := yz ht
 have HS3 := yz ((yy HSG).kept hx)
 have HR3 := yz (R2.kept hx)
 have HB3 := yz (aj B2 hx)
 clear ht hx R2 B2 HSG cT
 go_wp2_with fail
 go_loopw [40] (fun i wr => ∃ j : Nat, j ≤ tn ∧ i = .int .i64 j ∧ Hid (∀ l, l < j → bN A (tA T l) = false) ∧ Hid (gE wr g T) ∧ Hid (dQ wr a2 A al) ∧ Hid (Blk wr w.heap.size [.int .i64 0, .int .i64 0, .int .i64 0, .int .i64 0, .int .i64 0] 48) ∧ Hid (Below w.heap.size w wr)) (fun i _ => tn - (intOf i).toNat)
 case atStart => exact ⟨0, by omega, rfl, yz (fun j hj => absurd hj (Nat.not_lt_zero _)), HT3, HS3, HR3, HB3⟩
 case round =>
  clear HT3 HS3 HR3 HB3
  obtain ⟨j, hj, rfl, HF, HT, HS', HRB, HB⟩ := hrel
  by_cases hjn : j < tn
  ·have hjn2 : (j : Int) < (tn : Int) := by omega
   obtain ⟨c0, c1, c2', c3'⟩ := (yy HT).2 j (by rw [yy HTL]; exact hjn)
   have htr := yy HTR j hjn
   have HF1j := yz (yy HF1 j hjn (yy HF))
   obtain ⟨t, ht⟩ : ∃ t, tA T j = t := ⟨_, rfl⟩
   rw [ht] at c0 c1 c2' c3' htr HF1j
   have HTE := yz ht
   clear ht
   have cEt := yz (fun W h => yy cE t a2 W htr h)
   clear htr
   have HEX : Hid (bN A (tA T j) = bN A t) := yz (by rw [yy HTE])
   generalize bN A t = ev at *
   obtain ⟨t1, t2, t3, t4⟩ := t
   simp only at c0 c1 c2' c3' cEt
   have Z := an wr (.cells #[.int .i64 t1, .int .i64 t2, .int .i64 t3, .int .i64 t4] 25)
   have TA1 := yz (aO wr t1 t2 t3 t4 25)
   have HT1 := yz ((yy HT).kept Z)
   have HS1 := yz ((yy HS').kept Z)
   have HR1 := yz ((yy HRB).kept Z)
   have HB1 := yz (aj (yy HB) Z)
   clear Z HT HS' HRB HB
   go_wp2_with fail
   clear c0 c1 c2' c3'
   generalize wr.alloc (.cells #[.int .i64 t1, .int .i64 t2, .int .i64 t3, .int .i64 t4] 25) = W4 at TA1 HT1 HS1 HR1 HB1 ⊢
   generalize wr.heap.size = tb at *
   refine (yy cEt _ (yy HS1)).mono ?_
   rintro e W5 ⟨rfl, hx⟩
   have TA2 := yz ((yy TA1).kept (yy TA1).lt hx)
   have HT2 := yz ((yy HT1).kept hx)
   have HS2 := yz ((yy HS1).kept hx)
   have HR2 := yz ((yy HR1).kept hx)
   have HB2 := yz (aj (yy HB1) hx)
   clear hx TA1 HT1 HS1 HR1 HB1 cEt
   cases ev
   ·go_wp2_with fail
    go_roundw
    case rel => exact ⟨j + 1, by omega, by go_num, yz (fun l hl => by
     by_cases e : l = j
     ·rw [e]; exact yy HEX
     ·exact yy HF l (by omega)), HT2, HS2, HR2, HB2⟩
    case measure => simp [intOf]; omega
   ·have HRV : Hid (R = ((t1, t2, t3, t4), 0)) := yz (by rw [yy HR]; exact yy HF1j rfl)
    obtain ⟨x0, x1, x2, x3⟩ := yy TA2
    obtain ⟨r0, r1, r2, r3, r4⟩ := jj (yy HR2)
    obtain ⟨f0, f1, f2, f3, f4⟩ := nZ (yy HR2)
    go_wp2_with fail
    exact bodyPost_ret (v := .agg #[.int .i64 t1, .int .i64 t2, .int .i64 t3, .int .i64 t4, .int .i64 0]) (by simp [results, Tryz.results96, go_sem, r0, r1, r2, r3, r4]) rfl ⟨by rw [yy HRV]; rfl, dD (yy HB2) (Nat.le_refl _) _ _ _ _ _⟩
  ·have hjn' : j = tn := by omega
   subst hjn'
   have HRV : Hid (R = ((0, 0, 0, 0), 6)) := yz (by rw [yy HR]; exact yy HF2 (yy HF))
   obtain ⟨r0, r1, r2, r3, r4⟩ := jj (yy HRB)
   obtain ⟨f0, f1, f2, f3, f4⟩ := nZ (yy HRB)
   go_wp2_with fail
   exact bodyPost_ret (v := .agg #[.int .i64 0, .int .i64 0, .int .i64 0, .int .i64 0, .int .i64 6]) (by simp [results, Tryz.results96, go_sem, r0, r1, r2, r3, r4]) rfl ⟨by rw [yy HRV]; rfl, dD (yy HB) (Nat.le_refl _) _ _ _ _ _⟩
end
end Go.Proofs.YtgiodlllokdcdaaGreatDoor
