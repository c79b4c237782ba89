/- Several texts in one: TfA, ModO, DrW. -/
import Derived.Lay
import Derived.Test.YtdchjcadhlkpfaaGreatDoorQFnTopOwn18
import Derived.Test.YtdchjcadhlkpfaaGreatDoorQFnTopOwn19
import Derived.Test.YtdchjcadhlkpfaaGreatDoorQFnTopOwn17
import Derived.Test.YtdchjcadhlkpfaaGreatDoorQFnTopOwn21
import Derived.Test.YtdchjcadhlkpfaaGreatDoorQFnTopOwn4
import Derived.Test.YtdchjcadhlkpfaaGreatDoorQFnTopOwn27
namespace Go.Proofs.YtdchjcadhlkpfaaGreatDoor
set_option linter.unusedVariables false
set_option linter.unusedSimpArgs false
set_option maxRecDepth 100000
set_option maxHeartbeats 8000000
section
open Go.RowKit Go.Sort
theorem mL (A : List Sg) (n : Nat) (t : T4) (a : Option Addr) (c : Nat) (w : World) (hl : A.length = n) (hn : n ≤ 1048576) (ht : az t.1 t.2.1 t.2.2.1 t.2.2.2 = true) (hsm : ∀ i, i < n → ba (sgA A i).2.2.1 (sgA A i).2.2.2.1 (sgA A i).2.2.2.2 = true) (hS : ce w a A n) :
  Calls Tryz.prog 205 #[.agg #[.int .i64 t.1, .int .i64 t.2.1, .int .i64 t.2.2.1, .int .i64 t.2.2.2], .slice a n c] w fun e w' => e = .returned (.bool (cd A t)) ∧ Below w.heap.size w w' := by
 have HNO : Hid (∀ i, i < n → fe t (sgA A i) = false → cd A t = false) := yz (fun i hi h => ug (by omega) h)
 have HYE : Hid ((∀ i, i < n → fe t (sgA A i) = true) → cd A t = true) := yz (fun h => sQ (by rw [hl]; exact h))
 have HSM := yz hsm
 have HT := yz ht
 have HBR : Hid (∀ s, fe t s = eG s.1 (apD t.1 t.2.1 t.2.2.1 t.2.2.2 s.2.2)) := yz (fun s => rfl)
 clear hl hsm ht
 generalize cd A t = R at *
 generalize fe t = br at *
 obtain ⟨t1, t2, t3, t4⟩ := t
 simp only at HT HBR ⊢
 have V0 := yz (aM w t1 t2 t3 t4 43)
 have B0 := yz (an w (.cells #[.int .i64 t1, .int .i64 t2, .int .i64 t3, .int .i64 t4] 43))
 rcases hS with rfl | ⟨b, o, rfl, hb, hc⟩
 ·have HY := yz (yy HYE (fun i hi => absurd hi (Nat.not_lt_zero _)))
  go_enter Tryz.func205, Tryz.ntmps205
  go_wp2_with fail
  refine wp_loop_rounds 1 ?_
  rw [rounds_succ]
  go_wp2_with fail
  go_ret
  exact ⟨by rw [yy HY]; rfl, yy B0⟩
 have HC := yz hc
 clear hc
 go_enter Tryz.func205, Tryz.ntmps205
 go_wp2_with fail
 go_loopw [9] (fun i wr => ∃ k : Nat, k ≤ n ∧ i = .int .i64 k ∧ Hid (∀ j, j < k → br (sgA A j) = true) ∧ Hid (Below w.heap.size w wr) ∧ Hid (aC wr w.heap.size t1 t2 t3 t4)) (fun i _ => n - (intOf i).toNat)
 case atStart => exact ⟨0, by omega, rfl, yz (fun j hj => absurd hj (Nat.not_lt_zero _)), B0, V0⟩
 case round =>
  clear B0 V0
  obtain ⟨k, hk, rfl, HF, HB, HV⟩ := hrel
  by_cases hkn : k < n
  ·have hkn2 : (k : Int) < (n : Int) := by omega
   have hsmk := yy HSM k hkn
   have HBK := yz (yy HBR (sgA A k))
   have HNK := yz (yy HNO k hkn)
   obtain ⟨s, hs⟩ : ∃ t, sgA A k = t := ⟨_, rfl⟩
   have hst := ((yy HC) k hkn).kept (yy HB)
   rw [hs] at hst hsmk HBK HNK
   have HSE := yz hs
   clear hs
   have cA := yz (fun W => fH t1 t2 t3 t4 s.2.2 W (yy HT) hsmk)
   clear hsmk
   have Z := an wr (.cells #[.int .i64 s.1.1, .int .i64 s.1.2.1, .int .i64 s.1.2.2, .int .i64 s.2.1, .int .i64 s.2.2.1, .int .i64 s.2.2.2.1, .int .i64 s.2.2.2.2] 238)
   have T1 := cY wr s 238
   have HB1 := yz (ak (yy HB) Z)
   have HV1 := yz ((yy HV).kept (yy HV).lt Z)
   clear Z HB HV
   generalize apD t1 t2 t3 t4 s.2.2 = q at *
   obtain ⟨q1, q2, q3⟩ := q
   obtain ⟨⟨b1, b2, b3⟩, b4, b5, b6, b7⟩ := s
   have cS : Hid (∀ W : World, Calls Tryz.prog 179 #[.agg #[.int .i64 b1, .int .i64 b2, .int .i64 b3], .agg #[.int .i64 q1, .int .i64 q2, .int .i64 q3]] W fun e w' => e = .returned (.bool (eG (b1, b2, b3) (q1, q2, q3))) ∧ Below W.heap.size W w') := yz (fun W => eH b1 b2 b3 q1 q2 q3 W)
   simp only at HBK cA T1 HB1 HV1
   generalize eG (b1, b2, b3) (q1, q2, q3) = sm at *
   obtain ⟨c0, c1, c2, c3, c4, c5, c6⟩ := hst
   simp only at c0 c1 c2 c3 c4 c5 c6
   go_wp2_with fail
   clear c0 c1 c2 c3 c4 c5 c6
   generalize wr.alloc (.cells #[.int .i64 b1, .int .i64 b2, .int .i64 b3, .int .i64 b4, .int .i64 b5, .int .i64 b6, .int .i64 b7] 238) = W4 at T1 HB1 HV1 ⊢
   generalize wr.heap.size = tb at *
   obtain ⟨x0, x1, x2, x3, x4, x5, x6⟩ := T1
   simp only [Nat.zero_add] at x0 x1 x2 x3 x4 x5 x6
   obtain ⟨y0, y1, y2, y3⟩ := yy HV1
   have r0 := cell_regrown x0
   have r1 := cell_regrown x1
   have r2 := cell_regrown x2
   have r4 := cell_regrown x4
   have r5 := cell_regrown x5
   have r6 := cell_regrown x6
   have s0 := cell_regrown y0
   have s1 := cell_regrown y1
   have s2 := cell_regrown y2
   have s3 := cell_regrown y3
   clear x0 x1 x2 x3 x4 x5 x6 y0 y1 y2 y3
   refine wp_region_quiet_below (by kernel_rfl) (by kernel_rfl) ?_
   repeat (go_big_quiet_step (first | (with_reducible exact Calls.regrown_of (yy cA _)) | (with_reducible exact Calls.regrown_of (yy cS _))))
   refine wpQuiet_nil ?_
   intro _ hw'
   obtain ⟨⟨dq, osq⟩, hw''⟩ := hw'
   subst hw''
   have hx := below_regrown W4 dq osq
   have HB5 := yz (ak (yy HB1) hx)
   have HV5 := yz ((yy HV1).kept (yy HV1).lt hx)
   generalize grow (redrawn W4 dq) osq = W5 at hx HB5 HV5 ⊢
   clear hx r0 r1 r2 r4 r5 r6 s0 s1 s2 s3 cA cS HB1 HV1
   cases sm
   ·have HN := yz (yy HNK (yy HBK))
    go_wp2_with fail
    go_ret
    exact ⟨by rw [yy HN]; rfl, yy HB5⟩
   ·have HOK : Hid (br (sgA A k) = true) := yz (by rw [yy HSE]; exact yy HBK)
    go_wp2_with fail
    go_roundw
    case rel => exact ⟨k + 1, by omega, by go_num, yz (fun l hl => by
     by_cases e : l = k
     ·rw [e]; exact yy HOK
     ·exact yy HF l (by omega)), HB5, HV5⟩
    case measure => simp [intOf]; omega
  ·have hkn' : k = n := by omega
   subst hkn'
   have HY := yz (yy HYE (yy HF))
   go_wp2_with fail
   go_ret
   exact ⟨by rw [yy HY]; rfl, yy HB⟩
def outV (r : T4 × Int) : Value := .agg #[.int .i64 r.1.1, .int .i64 r.1.2.1, .int .i64 r.1.2.2.1, .int .i64 r.1.2.2.2, .int .i64 r.2]
theorem eB {w w1 : World} {b : Nat} (h : Below w.heap.size w w1) (hb : w.heap.size ≤ b) (x y z u v : Value) : Below w.heap.size w (((((w1.setCell ⟨b, 0, none⟩ x).setCell ⟨b, 1, none⟩ y).setCell ⟨b, 2, none⟩ z).setCell ⟨b, 3, none⟩ u).setCell ⟨b, 4, none⟩ v) := ((((h.setCell hb _).setCell hb _).setCell hb _).setCell hb _).setCell hb _
theorem jv (L : List St) (S : List D3) (ids : List Int) (ar br ir : Option Addr) (cr dr er : Nat) (p : Addr) (w : World) (hn : L.length ≤ 1048576) (hcap : L.length ≤ cr) (hc9 : cr ≤ 9223372036854775807) (hn2 : S.length ≤ 1048576) (hcap2 : S.length ≤ dr) (hd9 : dr ≤ 9223372036854775807) (hn3 : ids.length ≤ 1048576) (hS : aL w ar L L.length) (hD : bG w br S S.length) (hI : fR w ir ids ids.length) (hE : aW p w) :
  Calls Tryz.prog 191 #[.slice ar L.length cr, .slice br S.length dr, .slice ir ids.length er] w fun e w' => e = .returned (outV (fK L S ids)) ∧ Below w.heap.size w w' := by
 have cN := yz (fun (W : World) h1 h2 h3 h4 => lw L S ids ar br ir cr dr er p W hn hcap hc9 hn2 hcap2 hd9 hn3 h1 h2 h3 h4)
 have cO : Hid (bd L S ids = true → ∀ W : World, aL W ar L L.length → bG W br S S.length → fR W ir ids ids.length → aW p W → Calls Tryz.prog 203 #[.slice ar L.length cr, .slice br S.length dr, .slice ir ids.length er] W fun e w' => (∃ v, e = .returned v ∧ w'.ownsRow W.heap.size 238 7 v (aq L S ids ids.length).length (bm (aq L S ids ids.length))) ∧ Below W.heap.size W w') := yz (fun h W h1 h2 h3 h4 => by
  obtain ⟨g1, g2, g3, _⟩ := fI h
  exact im L S ids ids.length ar br ir cr dr er p W g1 hn hcap hc9 (em g2).1 g3 h1 h2 h3 h4)
 have HSM : Hid (bd L S ids = true → ∀ i, i < (aq L S ids ids.length).length → ba (sgA (aq L S ids ids.length) i).2.2.1 (sgA (aq L S ids ids.length) i).2.2.2.1 (sgA (aq L S ids ids.length) i).2.2.2.2 = true) := yz (fun h i hi => oo h hi)
 have HAL : Hid (bd L S ids = true → (aq L S ids ids.length).length ≤ 6) := yz (fun h => by
  obtain ⟨g1, g2, g3, _⟩ := fI h
  have := ec L S ids ids.length
  have := (em g2).1
  omega)
 have H1 : Hid (400 < L.length ∨ 400 < S.length ∨ 400 < ids.length → fK L S ids = ((0, 0, 0, 0), 2)) := yz tr
 have H2 : Hid (¬ (400 < L.length ∨ 400 < S.length ∨ 400 < ids.length) → bd L S ids = false → fK L S ids = ((0, 0, 0, 0), 1)) := yz su
 have H3 : Hid (¬ (400 < L.length ∨ 400 < S.length ∨ 400 < ids.length) → bd L S ids = true → (aq L S ids ids.length).length < 2 → fK L S ids = ((0, 0, 0, 0), 10)) := yz uI
 have H4 : Hid (¬ (400 < L.length ∨ 400 < S.length ∨ 400 < ids.length) → bd L S ids = true → ¬ (aq L S ids ids.length).length < 2 → fK L S ids = eN (aq L S ids ids.length) (aA 625)) := yz ro
 have HS := yz hS
 have HD := yz hD
 have HI := yz hI
 have HE := yz hE
 clear hS hD hI hE hcap hc9 hcap2 hd9
 generalize fK L S ids = R at *
 generalize bd L S ids = nb at *
 generalize aq L S ids ids.length = A at *
 generalize S.length = m at *
 generalize ids.length = k at *
 generalize L.length = n at *
 have R0 := au w [.int .i64 0, .int .i64 0, .int .i64 0, .int .i64 0, .int .i64 0] 108
 have B0 := an w (.cells #[.int .i64 0, .int .i64 0, .int .i64 0, .int .i64 0, .int .i64 0] 108)
 by_cases hbig : 400 < n ∨ 400 < m ∨ 400 < k
 ·obtain rfl := yy H1 hbig
  have h' : 400 < n ∨ (¬ 400 < n ∧ 400 < m) ∨ (¬ 400 < n ∧ ¬ 400 < m ∧ 400 < k) := by omega
  rcases h' with h | ⟨h, h1⟩ | ⟨h, h1, h2⟩
  ·have g1 : decide ((400 : Int) < (n : Int)) = true := by simp; omega
   have g2 : (400 : Int) < (n : Int) := by omega
   go_enter Tryz.func191, Tryz.ntmps191
   go_wp2_with fail
   exact bodyPost_ret (v := .agg #[.int .i64 0, .int .i64 0, .int .i64 0, .int .i64 0, .int .i64 2]) (by simp [results, Tryz.results191, go_sem]) rfl ⟨rfl, an _ _⟩
  ·have g1 : decide ((400 : Int) < (n : Int)) = false := by simp; omega
   have g2 : ¬ (400 : Int) < (n : Int) := by omega
   have g3 : decide ((400 : Int) < (m : Int)) = true := by simp; omega
   have g4 : (400 : Int) < (m : Int) := by omega
   go_enter Tryz.func191, Tryz.ntmps191
   go_wp2_with fail
   exact bodyPost_ret (v := .agg #[.int .i64 0, .int .i64 0, .int .i64 0, .int .i64 0, .int .i64 2]) (by simp [results, Tryz.results191, go_sem]) rfl ⟨rfl, an _ _⟩
  ·have g1 : decide ((400 : Int) < (n : Int)) = false := by simp; omega
   have g2 : ¬ (400 : Int) < (n : Int) := by omega
   have g3 : decide ((400 : Int) < (m : Int)) = false := by simp; omega
   have g4 : ¬ (400 : Int) < (m : Int) := by omega
   have g5 : decide ((400 : Int) < (k : Int)) = true := by simp; omega
   have g6 : (400 : Int) < (k : Int) := by omega
   go_enter Tryz.func191, Tryz.ntmps191
   go_wp2_with fail
   exact bodyPost_ret (v := .agg #[.int .i64 0, .int .i64 0, .int .i64 0, .int .i64 0, .int .i64 2]) (by simp [results, Tryz.results191, go_sem]) rfl ⟨rfl, an _ _⟩
 have g1 : decide ((400 : Int) < (n : Int)) = false := by simp; omega
 have g2 : ¬ (400 : Int) < (n : Int) := by omega
 have g3 : decide ((400 : Int) < (m : Int)) = false := by simp; omega
 have g4 : ¬ (400 : Int) < (m : Int) := by omega
 have g5 : decide ((400 : Int) < (k : Int)) = false := by simp; omega
 have g6 : ¬ (400 : Int) < (k : Int) := by omega
 go_enter Tryz.func191, Tryz.ntmps191
 go_wp2_with fail
 generalize w.alloc (.cells #[.int .i64 0, .int .i64 0, .int .i64 0, .int .i64 0, .int .i64 0] 108) = W0 at R0 B0 ⊢
 refine (yy cN _ ((yy HS).kept B0) ((yy HD).kept B0) ((yy HI).kept B0) ((yy HE).kept B0)).mono ?_
 rintro e W1 ⟨rfl, hx⟩
 have R1 := R0.kept hx
 have B1 := ak B0 hx
 clear hx R0 B0
 cases nb
 ·obtain rfl := yy H2 hbig rfl
  obtain ⟨r0, r1, r2, r3, r4⟩ := mY (R1)
  obtain ⟨f0, f1, f2, f3, f4⟩ := rK (R1)
  go_wp2_with fail
  exact bodyPost_ret (v := .agg #[.int .i64 0, .int .i64 0, .int .i64 0, .int .i64 0, .int .i64 1]) (by simp [results, Tryz.results191, go_sem, r0, r1, r2, r3, r4]) rfl ⟨rfl, eB B1 (Nat.le_refl _) _ _ _ _ _⟩
 have cO' := yz (yy cO rfl)
 have HSM' := yz (yy HSM rfl)
 have hal6 := yy HAL rfl
 have H3' := yz (yy H3 hbig rfl)
 have H4' := yz (yy H4 hbig rfl)
 clear cO HSM HAL H1 H2 H3 H4 cN hbig g1 g2 g3 g4 g5 g6
 go_wp2_with fail
 refine (yy cO' _ ((yy HS).kept B1) ((yy HD).kept B1) ((yy HI).kept B1) ((yy HE).kept B1)).mono ?_
 rintro e W2 ⟨⟨v2, rfl, ho⟩, hx⟩
 obtain ⟨a2, c2, rfl⟩ := sA ho
 have HSG := yz (gG ho)
 have R2 := R1.kept hx
 have B2 := ak B1 hx
 clear ho hx R1 B1 cO'
 by_cases h2 : A.length < 2
 ·obtain rfl := yy H3' h2
  have h2' : (A.length : Int) < 2 := by omega
  obtain ⟨r0, r1, r2, r3, r4⟩ := mY (R2)
  obtain ⟨f0, f1, f2, f3, f4⟩ := rK (R2)
  go_wp2_with fail
  exact bodyPost_ret (v := .agg #[.int .i64 0, .int .i64 0, .int .i64 0, .int .i64 0, .int .i64 10]) (by simp [results, Tryz.results191, go_sem, r0, r1, r2, r3, r4]) rfl ⟨rfl, eB B2 (Nat.le_refl _) _ _ _ _ _⟩
 have h2' : ¬ (A.length : Int) < 2 := by omega
 have HR := yz (yy H4' h2)
 have cT : Hid (∀ W : World, Calls Tryz.prog 204 #[] W fun e w' => ∃ g c, e = .returned (.slice (some ⟨g, 0, none⟩) (aA 625).length c) ∧ iJ w' g (aA 625) ∧ Below W.heap.size W w') := yz (fun W => (lx W).mono fun e w' h => by
  obtain ⟨⟨v, he, ho⟩, hb⟩ := h
  obtain ⟨g, c, rfl, hg, ht⟩ := ri ho pQ
  exact ⟨g, c, he, ht, hb⟩)
 have HTR : Hid (∀ k, k < (aA 625).length → az (tA (aA 625) k).1 (tA (aA 625) k).2.1 (tA (aA 625) k).2.2.1 (tA (aA 625) k).2.2.2 = true) := yz (fun k hk => jt hk)
 have hTL := lI 625
 have cE : Hid (∀ (t : T4) (a : Option Addr) (W : World), az t.1 t.2.1 t.2.2.1 t.2.2.2 = true → ce W a A A.length → Calls Tryz.prog 205 #[.agg #[.int .i64 t.1, .int .i64 t.2.1, .int .i64 t.2.2.1, .int .i64 t.2.2.2], .slice a A.length c2] W fun e w' => e = .returned (.bool (cd A t)) ∧ Below W.heap.size W w') := yz (fun t a W ht hs => mL A A.length t a c2 W rfl (by omega) ht (yy HSM') hs)
 clear HSM' H3' H4' h2
 have HF1 : Hid (∀ k, k < (aA 625).length → (∀ j, j < k → cd A (tA (aA 625) j) = false) → cd A (tA (aA 625) k) = true → eN A (aA 625) = (tA (aA 625) k, 0)) := yz (fun k hk h h1 => tU hk h h1)
 have HF2 : Hid ((∀ j, j < (aA 625).length → cd A (tA (aA 625) j) = false) → eN A (aA 625) = ((0, 0, 0, 0), 6)) := yz pD
 generalize aA 625 = T at *
 generalize hlt : T.length = tn at *
 have HTL := yz hlt
 clear hlt
 generalize A.length = al at *
 go_wp2_with fail
 refine (yy cT _).mono ?_
 rintro e W3 ⟨g, c3, rfl, ht, hx⟩
 have HT3 := yz ht
 have HS3 := yz ((yy HSG).kept hx)
 have HR3 := yz (R2.kept hx)
 have HB3 := yz (ak B2 hx)
 clear ht hx R2 B2 HSG cT
 go_wp2_with fail
 go_loopw [40] (fun i wr => ∃ j : Nat, j ≤ tn ∧ i = .int .i64 j ∧ Hid (∀ l, l < j → cd A (tA T l) = false) ∧ Hid (iJ wr g T) ∧ Hid (ce wr a2 A al) ∧ Hid (Blk wr w.heap.size [.int .i64 0, .int .i64 0, .int .i64 0, .int .i64 0, .int .i64 0] 108) ∧ Hid (Below w.heap.size w wr)) (fun i _ => tn - (intOf i).toNat)
 case atStart => exact ⟨0, by omega, rfl, yz (fun j hj => absurd hj (Nat.not_lt_zero _)), HT3, HS3, HR3, HB3⟩
 case round =>
  clear HT3 HS3 HR3 HB3
  obtain ⟨j, hj, rfl, HF, HT, HS', HRB, HB⟩ := hrel
  by_cases hjn : j < tn
  ·have hjn2 : (j : Int) < (tn : Int) := by omega
   obtain ⟨c0, c1, c2', c3'⟩ := (yy HT).2 j (by rw [yy HTL]; exact hjn)
   have htr := yy HTR j hjn
   have HF1j := yz (yy HF1 j hjn (yy HF))
   obtain ⟨t, ht⟩ : ∃ t, tA T j = t := ⟨_, rfl⟩
   rw [ht] at c0 c1 c2' c3' htr HF1j
   have HTE := yz ht
   clear ht
   have cEt := yz (fun W h => yy cE t a2 W htr h)
   clear htr
   have HEX : Hid (cd A (tA T j) = cd A t) := yz (by rw [yy HTE])
   generalize cd A t = ev at *
   obtain ⟨t1, t2, t3, t4⟩ := t
   simp only at c0 c1 c2' c3' cEt
   have Z := an wr (.cells #[.int .i64 t1, .int .i64 t2, .int .i64 t3, .int .i64 t4] 43)
   have TA1 := yz (aM wr t1 t2 t3 t4 43)
   have HT1 := yz ((yy HT).kept Z)
   have HS1 := yz ((yy HS').kept Z)
   have HR1 := yz ((yy HRB).kept Z)
   have HB1 := yz (ak (yy HB) Z)
   clear Z HT HS' HRB HB
   go_wp2_with fail
   clear c0 c1 c2' c3'
   generalize wr.alloc (.cells #[.int .i64 t1, .int .i64 t2, .int .i64 t3, .int .i64 t4] 43) = W4 at TA1 HT1 HS1 HR1 HB1 ⊢
   generalize wr.heap.size = tb at *
   refine (yy cEt _ (yy HS1)).mono ?_
   rintro e W5 ⟨rfl, hx⟩
   have TA2 := yz ((yy TA1).kept (yy TA1).lt hx)
   have HT2 := yz ((yy HT1).kept hx)
   have HS2 := yz ((yy HS1).kept hx)
   have HR2 := yz ((yy HR1).kept hx)
   have HB2 := yz (ak (yy HB1) hx)
   clear hx TA1 HT1 HS1 HR1 HB1 cEt
   cases ev
   ·go_wp2_with fail
    go_roundw
    case rel => exact ⟨j + 1, by omega, by go_num, yz (fun l hl => by
     by_cases e : l = j
     ·rw [e]; exact yy HEX
     ·exact yy HF l (by omega)), HT2, HS2, HR2, HB2⟩
    case measure => simp [intOf]; omega
   ·have HRV : Hid (R = ((t1, t2, t3, t4), 0)) := yz (by rw [yy HR]; exact yy HF1j rfl)
    obtain ⟨x0, x1, x2, x3⟩ := yy TA2
    obtain ⟨r0, r1, r2, r3, r4⟩ := mY (yy HR2)
    obtain ⟨f0, f1, f2, f3, f4⟩ := rK (yy HR2)
    go_wp2_with fail
    exact bodyPost_ret (v := .agg #[.int .i64 t1, .int .i64 t2, .int .i64 t3, .int .i64 t4, .int .i64 0]) (by simp [results, Tryz.results191, go_sem, r0, r1, r2, r3, r4]) rfl ⟨by rw [yy HRV]; rfl, eB (yy HB2) (Nat.le_refl _) _ _ _ _ _⟩
  ·have hjn' : j = tn := by omega
   subst hjn'
   have HRV : Hid (R = ((0, 0, 0, 0), 6)) := yz (by rw [yy HR]; exact yy HF2 (yy HF))
   obtain ⟨r0, r1, r2, r3, r4⟩ := mY (yy HRB)
   obtain ⟨f0, f1, f2, f3, f4⟩ := rK (yy HRB)
   go_wp2_with fail
   exact bodyPost_ret (v := .agg #[.int .i64 0, .int .i64 0, .int .i64 0, .int .i64 0, .int .i64 6]) (by simp [results, Tryz.results191, go_sem, r0, r1, r2, r3, r4]) rfl ⟨by rw [yy HRV]; rfl, eB (yy HB) (Nat.le_refl _) _ _ _ _ _⟩
def nX (L : List St) (lim : Int) : Bool := be L && bP 1 5 lim
def kl (L : List St) (lim : Int) : Tk := if 400 < L.length then dT else if nX L lim = true then ⟨L, lim, 0, 0, 0, 0, 0, 0, 0⟩ else dT
def mp (L : List St) (lim : Int) : Int := if 400 < L.length then 2 else if nX L lim = true then 0 else 1
theorem qE (L : List St) (lim : Int) : ax ⟨L, lim, 0, 0, 0, 0, 0, 0, 0⟩ = nX L lim := by
 unfold nX
 cases h1 : be L
 ·exact iF h1
 ·cases h2 : bP 1 5 lim
  ·exact iL h2
  ·rw [kP h1 h2 rfl, tu rfl]; rfl
theorem od (L : List St) (lim : Int) (b o c : Nat) (p : Addr) (w : World) (hn : L.length ≤ 1048576) (hcap : L.length ≤ c) (hc9 : c ≤ 9223372036854775807) (hE : aW p w) (hS : aL w (some ⟨b, o, none⟩) L L.length) :
  Calls Tryz.prog 41 #[.slice (some ⟨b, o, none⟩) L.length c, .int .i64 lim] w fun e w' => qP w' w.heap.size (kl L lim) (mp L lim) e ∧ Below w.heap.size w w' := by
 have B0 := an w (.cells #[.slice none 0 0, .int .i64 0, .int .i64 0, .int .i64 0, .int .i64 0, .int .i64 0, .int .i64 0, .int .i64 0, .int .i64 0, .int .i64 0] 47)
 have R0 := mv w (.slice none 0 0) 0 0 0 0 0 0 0 0 0 47
 have G0 := ea w #[.slice none 0 0, .int .i64 0, .int .i64 0, .int .i64 0, .int .i64 0, .int .i64 0, .int .i64 0, .int .i64 0, .int .i64 0, .int .i64 0] 47
 by_cases h4 : 400 < L.length
 ·have h4' : (400 : Int) < (L.length : Int) := by omega
  have HO1 : Hid (kl L lim = dT) := yz (by unfold kl; rw [if_pos h4])
  have HO2 : Hid (mp L lim = 2) := yz (by unfold mp; rw [if_pos h4])
  have B2 := yz B0
  have R2 := yz R0
  have G2 := yz G0
  clear h4 B0 R0 G0
  go_enter Tryz.func41, Tryz.ntmps41
  obtain ⟨⟨r0, r1, r2, r3, r4, r5, r6, r7, r8⟩, r9⟩ := yy R2
  have g0 := yy G2 0
  have g1 := yy G2 1
  have g2 := yy G2 2
  have g3 := yy G2 3
  have g4 := yy G2 4
  have g5 := yy G2 5
  have g6 := yy G2 6
  have g7 := yy G2 7
  have g8 := yy G2 8
  have g9 := yy G2 9
  go_wp2_with fail
  clear r0 r1 r2 r3 r4 r5 r6 r7 r8 r9 g0 g1 g2 g3 g4 g5 g6 g7 g8 g9
  refine bodyPost_ret (v := .agg #[.slice none 0 0, .int .i64 0, .int .i64 0, .int .i64 0, .int .i64 0, .int .i64 0, .int .i64 0, .int .i64 0, .int .i64 0, .int .i64 2]) (by simp [results, Tryz.results41, go_sem]) rfl ⟨?_, ?_⟩
  ·rw [yy HO1, yy HO2]
   exact dh _ _ _
  ·exact an _ _
 have h4' : ¬ (400 : Int) < (L.length : Int) := by omega
 have Z0 := an (w.alloc (.cells #[.slice none 0 0, .int .i64 0, .int .i64 0, .int .i64 0, .int .i64 0, .int .i64 0, .int .i64 0, .int .i64 0, .int .i64 0, .int .i64 0] 47)) (.cells #[.slice (some ⟨b, o, none⟩) L.length c, .int .i64 lim, .int .i64 0, .int .i64 0, .int .i64 0, .int .i64 0, .int .i64 0, .int .i64 0, .int .i64 0] 45)
 have T0 := (by simpa using dJ (w.alloc (.cells #[.slice none 0 0, .int .i64 0, .int .i64 0, .int .i64 0, .int .i64 0, .int .i64 0, .int .i64 0, .int .i64 0, .int .i64 0, .int .i64 0] 47)) (.slice (some ⟨b, o, none⟩) L.length c) lim 0 0 0 0 0 0 0 45 : bN ((w.alloc (.cells #[.slice none 0 0, .int .i64 0, .int .i64 0, .int .i64 0, .int .i64 0, .int .i64 0, .int .i64 0, .int .i64 0, .int .i64 0, .int .i64 0] 47)).alloc (.cells #[.slice (some ⟨b, o, none⟩) L.length c, .int .i64 lim, .int .i64 0, .int .i64 0, .int .i64 0, .int .i64 0, .int .i64 0, .int .i64 0, .int .i64 0] 45)) (w.heap.size + 1) (.slice (some ⟨b, o, none⟩) L.length c) lim 0 0 0 0 0 0 0)
 have hsz : w.heap.size + 2 ≤ ((w.alloc (.cells #[.slice none 0 0, .int .i64 0, .int .i64 0, .int .i64 0, .int .i64 0, .int .i64 0, .int .i64 0, .int .i64 0, .int .i64 0, .int .i64 0] 47)).alloc (.cells #[.slice (some ⟨b, o, none⟩) L.length c, .int .i64 lim, .int .i64 0, .int .i64 0, .int .i64 0, .int .i64 0, .int .i64 0, .int .i64 0, .int .i64 0] 45)).heap.size := by simp
 have HB := yz (ak B0 Z0)
 have HR := yz (R0.kept Z0)
 have HG := yz (G0.kept R0.lt Z0)
 have HT := yz T0
 have HS := yz ((hS.kept B0).kept Z0)
 have cR := yz (dC L lim 0 0 0 0 0 0 0 (some ⟨b, o, none⟩) c p _ hn hcap hc9 (yy HS) ((hE.kept B0).kept Z0))
 have cC := yz (fun W h => fo L lim 0 0 0 0 0 0 0 (some ⟨b, o, none⟩) c W hn h)
 rw [qE] at cR
 clear B0 R0 G0 Z0 T0 hS hE
 go_enter Tryz.func41, Tryz.ntmps41
 go_wp2_with fail
 generalize hW : (w.alloc (.cells #[.slice none 0 0, .int .i64 0, .int .i64 0, .int .i64 0, .int .i64 0, .int .i64 0, .int .i64 0, .int .i64 0, .int .i64 0, .int .i64 0] 47)).alloc (.cells #[.slice (some ⟨b, o, none⟩) L.length c, .int .i64 lim, .int .i64 0, .int .i64 0, .int .i64 0, .int .i64 0, .int .i64 0, .int .i64 0, .int .i64 0] 45) = W at *
 clear hW
 refine (yy cR).mono ?_
 rintro e w1 ⟨rfl, hx⟩
 have B1 := yz (ak (yy HB) hx)
 have T1 := yz ((yy HT).kept hx)
 have R1 := yz ((yy HR).kept hx)
 have G1 := yz ((yy HG).kept (yy HR).lt hx)
 have S1 := yz ((yy HS).kept hx)
 have hsz1 : w.heap.size + 2 ≤ w1.heap.size := Nat.le_trans hsz hx.size
 clear hx HB HT HR HG HS hsz cR
 cases hk : nX L lim
 ·have HO1 : Hid (kl L lim = dT) := yz (by unfold kl; rw [if_neg h4, hk]; rfl)
  have HO2 : Hid (mp L lim = 1) := yz (by unfold mp; rw [if_neg h4, hk]; rfl)
  have B2 := B1
  have R2 := R1
  have G2 := G1
  clear B1 R1 G1
  obtain ⟨⟨r0, r1, r2, r3, r4, r5, r6, r7, r8⟩, r9⟩ := yy R2
  have g0 := yy G2 0
  have g1 := yy G2 1
  have g2 := yy G2 2
  have g3 := yy G2 3
  have g4 := yy G2 4
  have g5 := yy G2 5
  have g6 := yy G2 6
  have g7 := yy G2 7
  have g8 := yy G2 8
  have g9 := yy G2 9
  go_wp2_with fail
  clear r0 r1 r2 r3 r4 r5 r6 r7 r8 r9 g0 g1 g2 g3 g4 g5 g6 g7 g8 g9
  refine bodyPost_ret (v := .agg #[.slice none 0 0, .int .i64 0, .int .i64 0, .int .i64 0, .int .i64 0, .int .i64 0, .int .i64 0, .int .i64 0, .int .i64 0, .int .i64 1]) ?_ rfl ⟨?_, ?_⟩
  ·refine nU _ _ w.heap.size _ 0 0 0 0 0 0 0 0 1 rfl ?_
   exact dy (yy R2) _ _ _ _ _ _ _ _ _ _
  ·rw [yy HO1, yy HO2]
   exact dh _ _ _
  ·iterate 10 (refine aO ?_ (Nat.le_refl w.heap.size) _ _)
   exact yy B2
 ·have HO1 : Hid (kl L lim = ⟨L, lim, 0, 0, 0, 0, 0, 0, 0⟩) := yz (by unfold kl; rw [if_neg h4, hk]; rfl)
  have HO2 : Hid (mp L lim = 0) := yz (by unfold mp; rw [if_neg h4, hk]; rfl)
  clear hk h4
  obtain ⟨s0, s1, s2, s3, s4, s5, s6, s7, s8⟩ := yy T1
  go_wp2_with fail
  clear s0 s1 s2 s3 s4 s5 s6 s7 s8
  refine (yy cC _ (yy S1)).mono ?_
  rintro e w2 ⟨a, cap, rfl, hC, hx⟩
  have B2 := yz (ak (yy B1) hx)
  have R2 := yz ((yy R1).kept hx)
  have G2 := yz ((yy G1).kept (yy R1).lt hx)
  have C2 := yz (hC.low (B' := w.heap.size + 1) (by omega))
  clear hx hC B1 R1 G1 T1 S1 cC
  go_wp2_with fail
  refine (hF lim 0 0 0 0 0 0 0 a L.length cap _).mono ?_
  rintro e w3 ⟨rfl, hx⟩
  have B3 := yz (ak (yy B2) hx)
  have R3 := yz ((yy R2).kept hx)
  have G3 := yz ((yy G2).kept (yy R2).lt hx)
  have C3 := yz ((yy C2).kept hx)
  clear hx B2 R2 G2 C2
  obtain ⟨⟨r0, r1, r2, r3, r4, r5, r6, r7, r8⟩, r9⟩ := yy R3
  have g0 := yy G3 0
  have g1 := yy G3 1
  have g2 := yy G3 2
  have g3 := yy G3 3
  have g4 := yy G3 4
  have g5 := yy G3 5
  have g6 := yy G3 6
  have g7 := yy G3 7
  have g8 := yy G3 8
  have g9 := yy G3 9
  go_wp2_with fail
  clear r0 r1 r2 r3 r4 r5 r6 r7 r8 r9 g0 g1 g2 g3 g4 g5 g6 g7 g8 g9
  refine bodyPost_ret (v := .agg #[.slice a L.length cap, .int .i64 lim, .int .i64 0, .int .i64 0, .int .i64 0, .int .i64 0, .int .i64 0, .int .i64 0, .int .i64 0, .int .i64 0]) ?_ rfl ⟨?_, ?_⟩
  ·refine nU _ _ w.heap.size _ lim 0 0 0 0 0 0 0 0 rfl ?_
   exact dy (yy R3) _ _ _ _ _ _ _ _ _ _
  ·rw [yy HO1, yy HO2]
   refine ⟨a, cap, rfl, ?_⟩
   refine ay.low (B := w.heap.size + 1) ?_ (by omega)
   iterate 10 (refine ay.far ?_ (Nat.lt_succ_self w.heap.size) _ _)
   exact yy C3
  ·iterate 10 (refine aO ?_ (Nat.le_refl w.heap.size) _ _)
   exact yy B3
end
section
open Go.RowKit Go.Deep Go.ChangeShapes
def dS : List (String × DataW Unit) := [("math/bits.deBruijn32tab", Rows.laid_math_bits_deBruijn32tab), ("math/bits.deBruijn64tab", Rows.laid_math_bits_deBruijn64tab), ("internal/strconv.uint64pow10", Rows.laid_internal_strconv_uint64pow10), ("unicode/utf8.acceptRanges", Rows.laid_unicode_utf8_acceptRanges), ("loop.example/g00577/impl.errNoSky", Rows.laid_loop_example_g00577_impl_errNoSky), ("unicode/utf8.first", Rows.laid_unicode_utf8_first)]
theorem vw {W : World} (h : laidMetH Tryz.prog dS W) : ∃ p, W.var? Tryz.prog "loop.example/g00577/impl.errNoSky" = some #[.iface 267 (.pointer (some p))] := by
 have h' : laidMet Tryz.prog dS W := h
 have h2 := bZ (bZ (bZ (bZ h')))
 obtain ⟨a, s, hv, _⟩ := laid_sentinel h2 hH pZ Tryz.underlying162 rowE Tryz.underlying267 Tryz.underlying291 rfl rfl Tryz.underlying9 (by kernel_rfl) (by kernel_rfl)
 exact ⟨a, hv⟩
theorem vD (os : Os) (args : Array Value) : laidMetH Tryz.prog dS ((World.laidAll Tryz.prog os dS).forCall (fun _ _ => 0) ⟨#[], args, []⟩).memory := by
 have h : laidMet Tryz.prog dS ((World.laidAll Tryz.prog os dS).forCall (fun _ _ => 0) ⟨#[], args, []⟩).memory := laidMet_laidAll _ (by kernel_rfl) (by kernel_rfl)
 exact h
theorem oK {W : World} (h : W.ShapedOpen Tryz.prog) : kE W := nr.s1_3 W h
end
end Go.Proofs.YtdchjcadhlkpfaaGreatDoor
