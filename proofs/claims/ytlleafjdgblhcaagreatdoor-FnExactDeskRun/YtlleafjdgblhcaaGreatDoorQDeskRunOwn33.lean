/- Several texts in one: TfA, DsE. -/
import Derived.Deep.RegionHeld
import Derived.Test.YtlleafjdgblhcaaGreatDoorQDeskRunOwn24
import Derived.Test.YtlleafjdgblhcaaGreatDoorQDeskRunOwn11
import Derived.Test.YtlleafjdgblhcaaGreatDoorQDeskRunOwn9
import Derived.Test.YtlleafjdgblhcaaGreatDoorQDeskRunOwn27
import Derived.Test.YtlleafjdgblhcaaGreatDoorQDeskRunOwn1
namespace Go.Proofs.YtlleafjdgblhcaaGreatDoor
set_option linter.unusedVariables false
set_option linter.unusedSimpArgs false
set_option maxRecDepth 100000
set_option maxHeartbeats 8000000
section
open Go.RowKit Go.Sort
theorem tz (A : List Sg) (n : Nat) (t : T4) (a : Option Addr) (c : Nat) (w : World) (hl : A.length = n) (hn : n ≤ 1048576) (ht : aA t.1 t.2.1 t.2.2.1 t.2.2.2 = true) (hsm : ∀ i, i < n → aL (sgA A i).2.2.1 (sgA A i).2.2.2.1 (sgA A i).2.2.2.2 = true) (hS : eT w a A n) :
  Calls Tryz.prog 191 #[.agg #[.int .i64 t.1, .int .i64 t.2.1, .int .i64 t.2.2.1, .int .i64 t.2.2.2], .slice a n c] w fun e w' => e = .returned (.bool (di A t)) ∧ Below w.heap.size w w' := by
 have HNO : Hid (∀ i, i < n → dz t (sgA A i) = false → di A t = false) := yz (fun i hi h => Dz (by omega) h)
 have HYE : Hid ((∀ i, i < n → dz t (sgA A i) = true) → di A t = true) := yz (fun h => Cz (by rw [hl]; exact h))
 have HSM := yz hsm
 have HT := yz ht
 have HBR : Hid (∀ s, dz t s = bN s.1 (apD t.1 t.2.1 t.2.2.1 t.2.2.2 s.2.2)) := yz (fun s => rfl)
 clear hl hsm ht
 generalize di A t = R at *
 generalize dz t = br at *
 obtain ⟨t1, t2, t3, t4⟩ := t
 simp only at HT HBR ⊢
 have V0 := yz (aH w t1 t2 t3 t4 32)
 have B0 := yz (an w (.cells #[.int .i64 t1, .int .i64 t2, .int .i64 t3, .int .i64 t4] 32))
 rcases hS with rfl | ⟨b, o, rfl, hb, hc⟩
 ·have HY := yz (yy HYE (fun i hi => absurd hi (Nat.not_lt_zero _)))
  go_enter Tryz.func191, Tryz.ntmps191
  go_wp2_with fail
  refine wp_loop_rounds 1 ?_
  rw [rounds_succ]
  go_wp2_with fail
  go_ret
  exact ⟨by rw [yy HY]; rfl, yy B0⟩
 have HC := yz hc
 clear hc
 go_enter Tryz.func191, Tryz.ntmps191
 go_wp2_with fail
 go_loopw [9] (fun i wr => ∃ k : Nat, k ≤ n ∧ i = .int .i64 k ∧ Hid (∀ j, j < k → br (sgA A j) = true) ∧ Hid (Below w.heap.size w wr) ∧ Hid (aJ wr w.heap.size t1 t2 t3 t4)) (fun i _ => n - (intOf i).toNat)
 case atStart => exact ⟨0, by omega, rfl, yz (fun j hj => absurd hj (Nat.not_lt_zero _)), B0, V0⟩
 case round =>
  clear B0 V0
  obtain ⟨k, hk, rfl, HF, HB, HV⟩ := hrel
  by_cases hkn : k < n
  ·have hkn2 : (k : Int) < (n : Int) := by omega
   have hsmk := yy HSM k hkn
   have HBK := yz (yy HBR (sgA A k))
   have HNK := yz (yy HNO k hkn)
   obtain ⟨s, hs⟩ : ∃ t, sgA A k = t := ⟨_, rfl⟩
   have hst := ((yy HC) k hkn).kept (yy HB)
   rw [hs] at hst hsmk HBK HNK
   have HSE := yz hs
   clear hs
   have cA := yz (fun W => jQ t1 t2 t3 t4 s.2.2 W (yy HT) hsmk)
   clear hsmk
   have Z := an wr (.cells #[.int .i64 s.1.1, .int .i64 s.1.2.1, .int .i64 s.1.2.2, .int .i64 s.2.1, .int .i64 s.2.2.1, .int .i64 s.2.2.2.1, .int .i64 s.2.2.2.2] 228)
   have T1 := fL wr s 228
   have HB1 := yz (ak (yy HB) Z)
   have HV1 := yz ((yy HV).kept (yy HV).lt Z)
   clear Z HB HV
   generalize apD t1 t2 t3 t4 s.2.2 = q at *
   obtain ⟨q1, q2, q3⟩ := q
   obtain ⟨⟨b1, b2, b3⟩, b4, b5, b6, b7⟩ := s
   have cS : Hid (∀ W : World, Calls Tryz.prog 165 #[.agg #[.int .i64 b1, .int .i64 b2, .int .i64 b3], .agg #[.int .i64 q1, .int .i64 q2, .int .i64 q3]] W fun e w' => e = .returned (.bool (bN (b1, b2, b3) (q1, q2, q3))) ∧ Below W.heap.size W w') := yz (fun W => iz b1 b2 b3 q1 q2 q3 W)
   simp only at HBK cA T1 HB1 HV1
   generalize bN (b1, b2, b3) (q1, q2, q3) = sm at *
   obtain ⟨c0, c1, c2, c3, c4, c5, c6⟩ := hst
   simp only at c0 c1 c2 c3 c4 c5 c6
   go_wp2_with fail
   clear c0 c1 c2 c3 c4 c5 c6
   generalize wr.alloc (.cells #[.int .i64 b1, .int .i64 b2, .int .i64 b3, .int .i64 b4, .int .i64 b5, .int .i64 b6, .int .i64 b7] 228) = W4 at T1 HB1 HV1 ⊢
   generalize wr.heap.size = tb at *
   obtain ⟨x0, x1, x2, x3, x4, x5, x6⟩ := T1
   simp only [Nat.zero_add] at x0 x1 x2 x3 x4 x5 x6
   obtain ⟨y0, y1, y2, y3⟩ := yy HV1
   have r0 := cell_regrown x0
   have r1 := cell_regrown x1
   have r2 := cell_regrown x2
   have r4 := cell_regrown x4
   have r5 := cell_regrown x5
   have r6 := cell_regrown x6
   have s0 := cell_regrown y0
   have s1 := cell_regrown y1
   have s2 := cell_regrown y2
   have s3 := cell_regrown y3
   clear x0 x1 x2 x3 x4 x5 x6 y0 y1 y2 y3
   refine wp_region_quiet_below (by kernel_rfl) (by kernel_rfl) ?_
   repeat (go_big_quiet_step (first | (with_reducible exact Calls.regrown_of (yy cA _)) | (with_reducible exact Calls.regrown_of (yy cS _))))
   refine wpQuiet_nil ?_
   intro _ hw'
   obtain ⟨⟨dq, osq⟩, hw''⟩ := hw'
   subst hw''
   have hx := below_regrown W4 dq osq
   have HB5 := yz (ak (yy HB1) hx)
   have HV5 := yz ((yy HV1).kept (yy HV1).lt hx)
   generalize grow (redrawn W4 dq) osq = W5 at hx HB5 HV5 ⊢
   clear hx r0 r1 r2 r4 r5 r6 s0 s1 s2 s3 cA cS HB1 HV1
   cases sm
   ·have HN := yz (yy HNK (yy HBK))
    go_wp2_with fail
    go_ret
    exact ⟨by rw [yy HN]; rfl, yy HB5⟩
   ·have HOK : Hid (br (sgA A k) = true) := yz (by rw [yy HSE]; exact yy HBK)
    go_wp2_with fail
    go_roundw
    case rel => exact ⟨k + 1, by omega, by go_num, yz (fun l hl => by
     by_cases e : l = k
     ·rw [e]; exact yy HOK
     ·exact yy HF l (by omega)), HB5, HV5⟩
    case measure => simp [intOf]; omega
  ·have hkn' : k = n := by omega
   subst hkn'
   have HY := yz (yy HYE (yy HF))
   go_wp2_with fail
   go_ret
   exact ⟨by rw [yy HY]; rfl, yy HB⟩
def outV (r : T4 × Int) : Value := .agg #[.int .i64 r.1.1, .int .i64 r.1.2.1, .int .i64 r.1.2.2.1, .int .i64 r.1.2.2.2, .int .i64 r.2]
theorem ez {w w1 : World} {b : Nat} (h : Below w.heap.size w w1) (hb : w.heap.size ≤ b) (x y z u v : Value) : Below w.heap.size w (((((w1.setCell ⟨b, 0, none⟩ x).setCell ⟨b, 1, none⟩ y).setCell ⟨b, 2, none⟩ z).setCell ⟨b, 3, none⟩ u).setCell ⟨b, 4, none⟩ v) := ((((h.setCell hb _).setCell hb _).setCell hb _).setCell hb _).setCell hb _
theorem oo (L : List St) (S : List D3) (ids : List Int) (ar br ir : Option Addr) (cr dr er : Nat) (p : Addr) (w : World) (hn : L.length ≤ 1048576) (hcap : L.length ≤ cr) (hc9 : cr ≤ 9223372036854775807) (hn2 : S.length ≤ 1048576) (hcap2 : S.length ≤ dr) (hd9 : dr ≤ 9223372036854775807) (hn3 : ids.length ≤ 1048576) (hS : aR w ar L L.length) (hD : cf w br S S.length) (hI : gx w ir ids ids.length) (hE : bu p w) :
  Calls Tryz.prog 177 #[.slice ar L.length cr, .slice br S.length dr, .slice ir ids.length er] w fun e w' => e = .returned (outV (iX L S ids)) ∧ Below w.heap.size w w' := by
 have cN := yz (fun (W : World) h1 h2 h3 h4 => qT L S ids ar br ir cr dr er p W hn hcap hc9 hn2 hcap2 hd9 hn3 h1 h2 h3 h4)
 have cO : Hid (bE L S ids = true → ∀ W : World, aR W ar L L.length → cf W br S S.length → gx W ir ids ids.length → bu p W → Calls Tryz.prog 189 #[.slice ar L.length cr, .slice br S.length dr, .slice ir ids.length er] W fun e w' => (∃ v, e = .returned v ∧ w'.ownsRow W.heap.size 228 7 v (au L S ids ids.length).length (cq (au L S ids ids.length))) ∧ Below W.heap.size W w') := yz (fun h W h1 h2 h3 h4 => by
  obtain ⟨g1, g2, g3, _⟩ := ft h
  exact mE L S ids ids.length ar br ir cr dr er p W g1 hn hcap hc9 (bK g2).1 g3 h1 h2 h3 h4)
 have HSM : Hid (bE L S ids = true → ∀ i, i < (au L S ids ids.length).length → aL (sgA (au L S ids ids.length) i).2.2.1 (sgA (au L S ids ids.length) i).2.2.2.1 (sgA (au L S ids ids.length) i).2.2.2.2 = true) := yz (fun h i hi => vG h hi)
 have HAL : Hid (bE L S ids = true → (au L S ids ids.length).length ≤ 6) := yz (fun h => by
  obtain ⟨g1, g2, g3, _⟩ := ft h
  have := hZ L S ids ids.length
  have := (bK g2).1
  omega)
 have H1 : Hid (400 < L.length ∨ 400 < S.length ∨ 400 < ids.length → iX L S ids = ((0, 0, 0, 0), 2)) := yz Cc
 have H2 : Hid (¬ (400 < L.length ∨ 400 < S.length ∨ 400 < ids.length) → bE L S ids = false → iX L S ids = ((0, 0, 0, 0), 1)) := yz AI
 have H3 : Hid (¬ (400 < L.length ∨ 400 < S.length ∨ 400 < ids.length) → bE L S ids = true → (au L S ids ids.length).length < 2 → iX L S ids = ((0, 0, 0, 0), 10)) := yz Dh
 have H4 : Hid (¬ (400 < L.length ∨ 400 < S.length ∨ 400 < ids.length) → bE L S ids = true → ¬ (au L S ids ids.length).length < 2 → iX L S ids = eU (au L S ids ids.length) (ay 625)) := yz zv
 have HS := yz hS
 have HD := yz hD
 have HI := yz hI
 have HE := yz hE
 clear hS hD hI hE hcap hc9 hcap2 hd9
 generalize iX L S ids = R at *
 generalize bE L S ids = nb at *
 generalize au L S ids ids.length = A at *
 generalize S.length = m at *
 generalize ids.length = k at *
 generalize L.length = n at *
 have R0 := ap w [.int .i64 0, .int .i64 0, .int .i64 0, .int .i64 0, .int .i64 0] 94
 have B0 := an w (.cells #[.int .i64 0, .int .i64 0, .int .i64 0, .int .i64 0, .int .i64 0] 94)
 by_cases hbig : 400 < n ∨ 400 < m ∨ 400 < k
 ·obtain rfl := yy H1 hbig
  have h' : 400 < n ∨ (¬ 400 < n ∧ 400 < m) ∨ (¬ 400 < n ∧ ¬ 400 < m ∧ 400 < k) := by omega
  rcases h' with h | ⟨h, h1⟩ | ⟨h, h1, h2⟩
  ·have g1 : decide ((400 : Int) < (n : Int)) = true := by simp; omega
   have g2 : (400 : Int) < (n : Int) := by omega
   go_enter Tryz.func177, Tryz.ntmps177
   go_wp2_with fail
   exact bodyPost_ret (v := .agg #[.int .i64 0, .int .i64 0, .int .i64 0, .int .i64 0, .int .i64 2]) (by simp [results, Tryz.results177, go_sem]) rfl ⟨rfl, an _ _⟩
  ·have g1 : decide ((400 : Int) < (n : Int)) = false := by simp; omega
   have g2 : ¬ (400 : Int) < (n : Int) := by omega
   have g3 : decide ((400 : Int) < (m : Int)) = true := by simp; omega
   have g4 : (400 : Int) < (m : Int) := by omega
   go_enter Tryz.func177, Tryz.ntmps177
   go_wp2_with fail
   exact bodyPost_ret (v := .agg #[.int .i64 0, .int .i64 0, .int .i64 0, .int .i64 0, .int .i64 2]) (by simp [results, Tryz.results177, go_sem]) rfl ⟨rfl, an _ _⟩
  ·have g1 : decide ((400 : Int) < (n : Int)) = false := by simp; omega
   have g2 : ¬ (400 : Int) < (n : Int) := by omega
   have g3 : decide ((400 : Int) < (m : Int)) = false := by simp; omega
   have g4 : ¬ (400 : Int) < (m : Int) := by omega
   have g5 : decide ((400 : Int) < (k : Int)) = true := by simp; omega
   have g6 : (400 : Int) < (k : Int) := by omega
   go_enter Tryz.func177, Tryz.ntmps177
   go_wp2_with fail
   exact bodyPost_ret (v := .agg #[.int .i64 0, .int .i64 0, .int .i64 0, .int .i64 0, .int .i64 2]) (by simp [results, Tryz.results177, go_sem]) rfl ⟨rfl, an _ _⟩
 have g1 : decide ((400 : Int) < (n : Int)) = false := by simp; omega
 have g2 : ¬ (400 : Int) < (n : Int) := by omega
 have g3 : decide ((400 : Int) < (m : Int)) = false := by simp; omega
 have g4 : ¬ (400 : Int) < (m : Int) := by omega
 have g5 : decide ((400 : Int) < (k : Int)) = false := by simp; omega
 have g6 : ¬ (400 : Int) < (k : Int) := by omega
 go_enter Tryz.func177, Tryz.ntmps177
 go_wp2_with fail
 generalize w.alloc (.cells #[.int .i64 0, .int .i64 0, .int .i64 0, .int .i64 0, .int .i64 0] 94) = W0 at R0 B0 ⊢
 refine (yy cN _ ((yy HS).kept B0) ((yy HD).kept B0) ((yy HI).kept B0) ((yy HE).kept B0)).mono ?_
 rintro e W1 ⟨rfl, hx⟩
 have R1 := R0.kept hx
 have B1 := ak B0 hx
 clear hx R0 B0
 cases nb
 ·obtain rfl := yy H2 hbig rfl
  obtain ⟨r0, r1, r2, r3, r4⟩ := mC (R1)
  obtain ⟨f0, f1, f2, f3, f4⟩ := ta (R1)
  go_wp2_with fail
  exact bodyPost_ret (v := .agg #[.int .i64 0, .int .i64 0, .int .i64 0, .int .i64 0, .int .i64 1]) (by simp [results, Tryz.results177, go_sem, r0, r1, r2, r3, r4]) rfl ⟨rfl, ez B1 (Nat.le_refl _) _ _ _ _ _⟩
 have cO' := yz (yy cO rfl)
 have HSM' := yz (yy HSM rfl)
 have hal6 := yy HAL rfl
 have H3' := yz (yy H3 hbig rfl)
 have H4' := yz (yy H4 hbig rfl)
 clear cO HSM HAL H1 H2 H3 H4 cN hbig g1 g2 g3 g4 g5 g6
 go_wp2_with fail
 refine (yy cO' _ ((yy HS).kept B1) ((yy HD).kept B1) ((yy HI).kept B1) ((yy HE).kept B1)).mono ?_
 rintro e W2 ⟨⟨v2, rfl, ho⟩, hx⟩
 obtain ⟨a2, c2, rfl⟩ := Ct ho
 have HSG := yz (lq ho)
 have R2 := R1.kept hx
 have B2 := ak B1 hx
 clear ho hx R1 B1 cO'
 by_cases h2 : A.length < 2
 ·obtain rfl := yy H3' h2
  have h2' : (A.length : Int) < 2 := by omega
  obtain ⟨r0, r1, r2, r3, r4⟩ := mC (R2)
  obtain ⟨f0, f1, f2, f3, f4⟩ := ta (R2)
  go_wp2_with fail
  exact bodyPost_ret (v := .agg #[.int .i64 0, .int .i64 0, .int .i64 0, .int .i64 0, .int .i64 10]) (by simp [results, Tryz.results177, go_sem, r0, r1, r2, r3, r4]) rfl ⟨rfl, ez B2 (Nat.le_refl _) _ _ _ _ _⟩
 have h2' : ¬ (A.length : Int) < 2 := by omega
 have HR := yz (yy H4' h2)
 have cT : Hid (∀ W : World, Calls Tryz.prog 190 #[] W fun e w' => ∃ g c, e = .returned (.slice (some ⟨g, 0, none⟩) (ay 625).length c) ∧ jU w' g (ay 625) ∧ Below W.heap.size W w') := yz (fun W => (qX W).mono fun e w' h => by
  obtain ⟨⟨v, he, ho⟩, hb⟩ := h
  obtain ⟨g, c, rfl, hg, ht⟩ := sj ho pW
  exact ⟨g, c, he, ht, hb⟩)
 have HTR : Hid (∀ k, k < (ay 625).length → aA (tA (ay 625) k).1 (tA (ay 625) k).2.1 (tA (ay 625) k).2.2.1 (tA (ay 625) k).2.2.2 = true) := yz (fun k hk => jP hk)
 have hTL := kD 625
 have cE : Hid (∀ (t : T4) (a : Option Addr) (W : World), aA t.1 t.2.1 t.2.2.1 t.2.2.2 = true → eT W a A A.length → Calls Tryz.prog 191 #[.agg #[.int .i64 t.1, .int .i64 t.2.1, .int .i64 t.2.2.1, .int .i64 t.2.2.2], .slice a A.length c2] W fun e w' => e = .returned (.bool (di A t)) ∧ Below W.heap.size W w') := yz (fun t a W ht hs => tz A A.length t a c2 W rfl (by omega) ht (yy HSM') hs)
 clear HSM' H3' H4' h2
 have HF1 : Hid (∀ k, k < (ay 625).length → (∀ j, j < k → di A (tA (ay 625) j) = false) → di A (tA (ay 625) k) = true → eU A (ay 625) = (tA (ay 625) k, 0)) := yz (fun k hk h h1 => vg hk h h1)
 have HF2 : Hid ((∀ j, j < (ay 625).length → di A (tA (ay 625) j) = false) → eU A (ay 625) = ((0, 0, 0, 0), 6)) := yz oX
 generalize ay 625 = T at *
 generalize hlt : T.length = tn at *
 have HTL := yz hlt
 clear hlt
 generalize A.length = al at *
 go_wp2_with fail
 refine (yy cT _).mono ?_
 rintro e W3 ⟨g, c3, rfl, ht, hx⟩
 have HT3 := yz ht
 have HS3 := yz ((yy HSG).kept hx)
 have HR3 := yz (R2.kept hx)
 have HB3 := yz (ak B2 hx)
 clear ht hx R2 B2 HSG cT
 go_wp2_with fail
 go_loopw [40] (fun i wr => ∃ j : Nat, j ≤ tn ∧ i = .int .i64 j ∧ Hid (∀ l, l < j → di A (tA T l) = false) ∧ Hid (jU wr g T) ∧ Hid (eT wr a2 A al) ∧ Hid (Blk wr w.heap.size [.int .i64 0, .int .i64 0, .int .i64 0, .int .i64 0, .int .i64 0] 94) ∧ Hid (Below w.heap.size w wr)) (fun i _ => tn - (intOf i).toNat)
 case atStart => exact ⟨0, by omega, rfl, yz (fun j hj => absurd hj (Nat.not_lt_zero _)), HT3, HS3, HR3, HB3⟩
 case round =>
  clear HT3 HS3 HR3 HB3
  obtain ⟨j, hj, rfl, HF, HT, HS', HRB, HB⟩ := hrel
  by_cases hjn : j < tn
  ·have hjn2 : (j : Int) < (tn : Int) := by omega
   obtain ⟨c0, c1, c2', c3'⟩ := (yy HT).2 j (by rw [yy HTL]; exact hjn)
   have htr := yy HTR j hjn
   have HF1j := yz (yy HF1 j hjn (yy HF))
   obtain ⟨t, ht⟩ : ∃ t, tA T j = t := ⟨_, rfl⟩
   rw [ht] at c0 c1 c2' c3' htr HF1j
   have HTE := yz ht
   clear ht
   have cEt := yz (fun W h => yy cE t a2 W htr h)
   clear htr
   have HEX : Hid (di A (tA T j) = di A t) := yz (by rw [yy HTE])
   generalize di A t = ev at *
   obtain ⟨t1, t2, t3, t4⟩ := t
   simp only at c0 c1 c2' c3' cEt
   have Z := an wr (.cells #[.int .i64 t1, .int .i64 t2, .int .i64 t3, .int .i64 t4] 32)
   have TA1 := yz (aH wr t1 t2 t3 t4 32)
   have HT1 := yz ((yy HT).kept Z)
   have HS1 := yz ((yy HS').kept Z)
   have HR1 := yz ((yy HRB).kept Z)
   have HB1 := yz (ak (yy HB) Z)
   clear Z HT HS' HRB HB
   go_wp2_with fail
   clear c0 c1 c2' c3'
   generalize wr.alloc (.cells #[.int .i64 t1, .int .i64 t2, .int .i64 t3, .int .i64 t4] 32) = W4 at TA1 HT1 HS1 HR1 HB1 ⊢
   generalize wr.heap.size = tb at *
   refine (yy cEt _ (yy HS1)).mono ?_
   rintro e W5 ⟨rfl, hx⟩
   have TA2 := yz ((yy TA1).kept (yy TA1).lt hx)
   have HT2 := yz ((yy HT1).kept hx)
   have HS2 := yz ((yy HS1).kept hx)
   have HR2 := yz ((yy HR1).kept hx)
   have HB2 := yz (ak (yy HB1) hx)
   clear hx TA1 HT1 HS1 HR1 HB1 cEt
   cases ev
   ·go_wp2_with fail
    go_roundw
    case rel => exact ⟨j + 1, by omega, by go_num, yz (fun l hl => by
     by_cases e : l = j
     ·rw [e]; exact yy HEX
     ·exact yy HF l (by omega)), HT2, HS2, HR2, HB2⟩
    case measure => simp [intOf]; omega
   ·have HRV : Hid (R = ((t1, t2, t3, t4), 0)) := yz (by rw [yy HR]; exact yy HF1j rfl)
    obtain ⟨x0, x1, x2, x3⟩ := yy TA2
    obtain ⟨r0, r1, r2, r3, r4⟩ := mC (yy HR2)
    obtain ⟨f0, f1, f2, f3, f4⟩ := ta (yy HR2)
    go_wp2_with fail
    exact bodyPost_ret (v := .agg #[.int .i64 t1, .int .i64 t2, .int .i64 t3, .int .i64 t4, .int .i64 0]) (by simp [results, Tryz.results177, go_sem, r0, r1, r2, r3, r4]) rfl ⟨by rw [yy HRV]; rfl, ez (yy HB2) (Nat.le_refl _) _ _ _ _ _⟩
  ·have hjn' : j = tn := by omega
   subst hjn'
   have HRV : Hid (R = ((0, 0, 0, 0), 6)) := yz (by rw [yy HR]; exact yy HF2 (yy HF))
   obtain ⟨r0, r1, r2, r3, r4⟩ := mC (yy HRB)
   obtain ⟨f0, f1, f2, f3, f4⟩ := ta (yy HRB)
   go_wp2_with fail
   exact bodyPost_ret (v := .agg #[.int .i64 0, .int .i64 0, .int .i64 0, .int .i64 0, .int .i64 6]) (by simp [results, Tryz.results177, go_sem, r0, r1, r2, r3, r4]) rfl ⟨by rw [yy HRV]; rfl, ez (yy HB) (Nat.le_refl _) _ _ _ _ _⟩
end
section
open Go.RowKit
def rL (k : Nat) (R : List (List UInt8)) : Option Ln := match k with
 | 0 => gw 0 R
 | 1 => hF 1 R
 | 2 => iH 2 R
 | 3 => hF 3 R
 | 4 => gw 4 R
 | 5 => iH 5 R
 | _ => gw 6 R
def eu : Nat → Nat
 | 0 => 72
 | 1 => 74
 | 2 => 76
 | 3 => 77
 | 4 => 78
 | 5 => 79
 | _ => 80
theorem wh {k : Nat} (h : k < 7) : k = 0 ∨ k = 1 ∨ k = 2 ∨ k = 3 ∨ k = 4 ∨ k = 5 ∨ k = 6 := by omega
theorem CM {s p0 : List UInt8} {r : List (List UInt8)} {k : Nat} (hp : pcs 32 s = p0 :: r) (hk : k < 7) (h : p0 = jJ k) : bh s = rL k r := by
 rw [eZ hp]
 subst h
 rcases wh hk with rfl | rfl | rfl | rfl | rfl | rfl | rfl <;> rfl
theorem CI {s p0 : List UInt8} {r : List (List UInt8)} (hp : pcs 32 s = p0 :: r) (h : ∀ k, k < 7 → p0 ≠ jJ k) : bh s = none := by
 rw [eZ hp, if_neg (show p0 ≠ iP from h 0 (by omega)), if_neg (show p0 ≠ iI from h 1 (by omega)), if_neg (show p0 ≠ qP from h 2 (by omega)), if_neg (show p0 ≠ kW from h 3 (by omega)), if_neg (show p0 ≠ iJ from h 4 (by omega)), if_neg (show p0 ≠ rn from h 5 (by omega)), if_neg (show p0 ≠ iO from h 6 (by omega))]
theorem Eh (k : Nat) (hk : k < 7) : ∃ tf, fwF (k * 3) = bW (jJ k) ∧ fwF (k * 3 + 1) = fnV tf ∧ fwF (k * 3 + 2) = fnV (eu k) ∧ (∀ (args : Array Value) (W : World), (callFunc tf args).run Tryz.prog W = .ok (.enter tf args) W) ∧ (∀ (W : World) (R : List (List UInt8)) (a : Option Addr) (c : Nat), qj W a R → (∀ x ∈ R, x.length ≤ 8000) → Calls Tryz.prog tf #[.slice a R.length c] W fun e w' => gj (rL k R) e ∧ Below W.heap.size W w') := by
 rcases wh hk with rfl | rfl | rfl | rfl | rfl | rfl | rfl
 ·exact ⟨71, rfl, rfl, rfl, fun _ _ => by kernel_rfl, fun W R a c _ _ => gA 0 R a c W⟩
 ·exact ⟨73, rfl, rfl, rfl, fun _ _ => by kernel_rfl, fun W R a c h _ => mA 1 R a c W h⟩
 ·exact ⟨75, rfl, rfl, rfl, fun _ _ => by kernel_rfl, fun W R a c h hz => kt 2 R a c W h hz⟩
 ·exact ⟨73, rfl, rfl, rfl, fun _ _ => by kernel_rfl, fun W R a c h _ => mA 3 R a c W h⟩
 ·exact ⟨71, rfl, rfl, rfl, fun _ _ => by kernel_rfl, fun W R a c _ _ => gA 4 R a c W⟩
 ·exact ⟨75, rfl, rfl, rfl, fun _ _ => by kernel_rfl, fun W R a c h hz => kt 5 R a c W h hz⟩
 ·exact ⟨71, rfl, rfl, rfl, fun _ _ => by kernel_rfl, fun W R a c _ _ => gA 6 R a c W⟩
def wo (s : ByteArray) (e : Ending) : Prop := (∃ l, bh s.data.toList = some l ∧ l.k < 7 ∧ e = .returned (.tuple #[.agg #[fnV (eu l.k), bW l.t, .int .i64 l.n], .bool true])) ∨ (bh s.data.toList = none ∧ ∃ f t n, (f = .nilFunc ∨ ∃ x, f = fnV x) ∧ e = .returned (.tuple #[.agg #[f, .string t, .int .i64 n], .bool false]))
theorem AO {k : Nat} {R : List (List UInt8)} {l : Ln} (hk : k < 7) (h : rL k R = some l) : l.k = k := by
 have a0 : ∀ j, gw j R = some l → l.k = j := fun j h => by
  match R, h with
  | [], h => cases h; rfl
 have aT : ∀ j, hF j R = some l → l.k = j := fun j h => by
  match R, h with
  | [x], h =>
   have h' : (if x = [] then none else some (⟨j, x, 0⟩ : Ln)) = some l := h
   split at h'
   ·cases h'
   ·cases h'; rfl
 have aN : ∀ j, iH j R = some l → l.k = j := fun j h => by
  match R, h with
  | [x], h =>
   have h' : (if fq x = true then some (⟨j, [], jg x⟩ : Ln) else none) = some l := h
   split at h'
   ·cases h'; rfl
   ·cases h'
 rcases wh hk with rfl | rfl | rfl | rfl | rfl | rfl | rfl
 ·exact a0 0 h
 ·exact aT 1 h
 ·exact aN 2 h
 ·exact aT 3 h
 ·exact a0 4 h
 ·exact aN 5 h
 ·exact a0 6 h
theorem oG {s : ByteArray} {k : Nat} {R : List (List UInt8)} {e : Ending} (hk : k < 7) (hl : bh s.data.toList = rL k R) (h : gj (rL k R) e) : ∃ tb nb bb, e = .returned (.tuple #[.agg #[.string tb, .int .i64 nb], .bool bb]) ∧ wo s (.returned (.tuple #[.agg #[fnV (eu k), .string tb, .int .i64 nb], .bool bb])) := by
 rcases h with ⟨l, h1, rfl⟩ | ⟨h1, t, n, rfl⟩
 ·exact ⟨_, _, _, rfl, .inl ⟨l, by rw [hl, h1], by rw [AO hk h1]; exact hk, by rw [AO hk h1]; rfl⟩⟩
 ·exact ⟨_, _, _, rfl, .inr ⟨by rw [hl, h1], _, _, _, .inr ⟨_, rfl⟩, rfl⟩⟩
theorem AQ (w : World) (D : List (List UInt8)) (j : Nat) (x : List UInt8) (h : D[j]? = some x) : (w.alloc (.cells (D.map bW).toArray 9)).cell? ⟨w.heap.size, j, none⟩ = some (bW x) := by
 rw [cell_of_row _ _ j _ _ _ (heap_alloc_new w _), List.getElem?_toArray, List.getElem?_map, h]
 rfl
theorem gr {w : World} {b b' : Nat} {cs : List Value} {t : TypeId} (h : Blk w b cs t) (hne : b ≠ b') (o : Nat) (x : Value) : Blk (w.setCell ⟨b', o, none⟩ x) b cs t := by
 unfold Blk at h ⊢
 rw [Below.heap_setCell w ⟨b', o, none⟩ x b hne]
 exact h
def DZ : List Value := [.nilFunc, .string ⟨#[]⟩, .int .i64 0]
structure tL (w wr : World) (wb fb : Nat) (D : List (List UInt8)) : Prop where
 out : Blk wr w.heap.size DZ 79
 fw : cH wr 111 fb 21 fwF
 wd : ∀ (j : Nat) x, D[j]? = some x → wr.cell? ⟨wb, j, none⟩ = some (bW x)
 bel : Below w.heap.size w wr
 lt1 : w.heap.size < wb
 lt2 : wb < fb
 lt3 : fb < wr.heap.size
theorem tL.kept {w w1 w2 : World} {wb fb : Nat} {D : List (List UInt8)} (h : tL w w1 wb fb D) (hx : Below w1.heap.size w1 w2) : tL w w2 wb fb D :=
 ⟨h.out.kept hx, h.fw.kept hx, fun j x e => eD (h.wd j x e) hx, ak h.bel hx, h.lt1, h.lt2, Nat.lt_of_lt_of_le h.lt3 hx.size⟩
theorem tL.off {w wa wr : World} {wb fb ob : Nat} {D : List (List UInt8)} (h : tL w wr wb fb D) (ho : wa.heap.size ≤ ob) (hfb : fb < wa.heap.size) (x y : Value) : tL w ((wr.setCell ⟨ob, 0, none⟩ x).setCell ⟨ob, 1, none⟩ y) wb fb D := by
 have h1 := h.lt1
 have h2 := h.lt2
 have hc : ∀ (b : Nat), b ≠ ob → ((wr.setCell ⟨ob, 0, none⟩ x).setCell ⟨ob, 1, none⟩ y).heap[b]? = wr.heap[b]? := fun b hb => by rw [Below.heap_setCell _ ⟨ob, 1, none⟩ y b hb, Below.heap_setCell wr ⟨ob, 0, none⟩ x b hb]
 refine ⟨(hc _ (by omega)).trans h.out, h.fw.same (hc _ (by omega)), fun j z e => ?_, (h.bel.setCell (by show w.heap.size ≤ ob; omega) x).setCell (by show w.heap.size ≤ ob; omega) y, h1, h2, by simpa [World.setCell] using h.lt3⟩
 have := h.wd j z e
 unfold World.cell? at this ⊢
 rw [show ((wr.setCell ⟨ob, 0, none⟩ x).setCell ⟨ob, 1, none⟩ y).heap[(⟨wb, j, none⟩ : Addr).block]? = wr.heap[(⟨wb, j, none⟩ : Addr).block]? from hc wb (by omega)]
 exact this
theorem mt (s : ByteArray) (w : World) (hs : s.size ≤ 8000) (hm : rp w) :
  Calls Tryz.prog 28 #[.string s] w fun e w' => wo s e ∧ Below w.heap.size w w' := by
 obtain ⟨p0, r, hp⟩ : ∃ p0 r, pcs 32 s.data.toList = p0 :: r := by
  cases h : pcs 32 s.data.toList with
  | nil => exact absurd h (jD _ _)
  | cons p0 r => exact ⟨p0, r, rfl⟩
 have HLA := yz (fun k hk h => CM (k := k) hp hk h)
 have HLN := yz (fun h => CI hp h)
 have HSZ := yz (go 32 s.data.toList)
 have HCT := eM 32 s.data.toList
 have B0 := an w (.cells #[.nilFunc, .string ⟨#[]⟩, .int .i64 0] 79)
 have R0 := ap w DZ 79
 have cS := yz (Ab s 32 (w.alloc (.cells #[.nilFunc, .string ⟨#[]⟩, .int .i64 0] 79)) hs (hm.kept B0))
 rw [hp] at cS HSZ HCT
 have hl0 : (w.alloc (.cells #[.nilFunc, .string ⟨#[]⟩, .int .i64 0] 79)).heap.size = w.heap.size + 1 := by simp
 clear hm
 go_enter Tryz.func28, Tryz.ntmps28
 go_wp2_with fail
 refine (yy cS).mono ?_
 rintro e w1 ⟨rfl, rfl⟩
 have R0' : Blk (w.alloc (.cells #[.nilFunc, .string ⟨#[]⟩, .int .i64 0] 79)) w.heap.size DZ 79 := R0
 generalize w.alloc (.cells #[.nilFunc, .string ⟨#[]⟩, .int .i64 0] 79) = W0 at *
 have Z1 := an W0 (.cells (List.map bW (p0 :: r)).toArray 9)
 have R1 := R0'.kept Z1
 have B1 := ak B0 Z1
 have C1 := AQ W0 (p0 :: r)
 have hl1 : (W0.alloc (.cells (List.map bW (p0 :: r)).toArray 9)).heap.size = W0.heap.size + 1 := by simp
 generalize W0.alloc (.cells (List.map bW (p0 :: r)).toArray 9) = W1 at *
 generalize hwb : W0.heap.size = wb at *
 clear Z1 R0 R0' B0 cS hwb
 subst hl0
 obtain ⟨m, hmm⟩ : ∃ m, (p0 :: r).length = m := ⟨_, rfl⟩
 have HM := yz hmm
 rw [hmm] at HCT ⊢
 have hm1 : 1 ≤ m := by rw [← hmm]; simp
 have hm9 : m ≤ 8001 := by rw [bg] at HCT; omega
 clear hmm HCT
 go_wp2_with fail
 refine (qz _).mono ?_
 rintro e w2 ⟨rfl, rfl⟩
 have HST : Hid (tL w (W1.alloc fwO) (w.heap.size + 1) W1.heap.size (p0 :: r)) := yz ⟨R1.kept (an W1 fwO), EE W1, fun j x e => eD (C1 j x e) (an W1 fwO), ak B1 (an W1 fwO), by omega, by omega, by simp⟩
 generalize W1.alloc fwO = W2 at *
 generalize W1.heap.size = fb at *
 clear R1 B1 C1 hl1
 go_wp2_with fail
 go_loopw [13] (fun i wr => ∃ k : Nat, k ≤ 7 ∧ i = .int .i64 k ∧ Hid (∀ j, j < k → p0 ≠ jJ j) ∧ Hid (tL w wr (w.heap.size + 1) fb (p0 :: r))) (fun i _ => 7 - (intOf i).toNat)
 case atStart => exact ⟨0, by omega, rfl, yz (fun j hj => absurd hj (Nat.not_lt_zero _)), HST⟩
 case round =>
  clear HST
  obtain ⟨k, hk, rfl, HF, HST⟩ := hrel
  by_cases hkn : k < 7
  ·have hkn2 : (k : Int) < 7 := by omega
   obtain ⟨tf, e0, e1, e2, hcf, hT⟩ := Eh k hkn
   have HT := yz hT
   clear hT
   have c0 := (yy HST).fw.cell (j := k * 3) (by omega)
   have c1 := (yy HST).fw.cell (j := k * 3 + 1) (by omega)
   have c2 := (yy HST).fw.cell (j := k * 3 + 2) (by omega)
   rw [e0] at c0
   rw [e1] at c1
   rw [e2] at c2
   have p1 := (yy HST).wd 0 p0 rfl
   unfold fnV at c1 c2
   unfold bW at c0 p1
   clear e0 e1 e2
   obtain ⟨kb, hkb⟩ : ∃ kb : ByteArray, (⟨(jJ k).toArray⟩ : ByteArray) = kb := ⟨_, rfl⟩
   obtain ⟨pb, hpb⟩ : ∃ pb : ByteArray, (⟨p0.toArray⟩ : ByteArray) = pb := ⟨_, rfl⟩
   rw [hkb] at c0
   rw [hpb] at p1
   have Z := an wr (.cells #[.string kb, .func (.func tf) #[] #[], .func (.func (eu k)) #[] #[]] 111)
   have HST2 := yz ((yy HST).kept Z)
   have D2 := yz (ap wr [.string kb, .func (.func tf) #[] #[], .func (.func (eu k)) #[] #[]] 111)
   have p2 := eD p1 Z
   clear Z HST p1
   go_upto_region 5 with fail
   clear c0 c1 c2
   generalize wr.alloc (.cells #[.string kb, .func (.func tf) #[] #[], .func (.func (eu k)) #[] #[]] 111) = W3 at *
   generalize wr.heap.size = db at *
   have d0 := (yy D2).cell 0 _ rfl
   have hm0 : (0 : Int) < (m : Int) := by omega
   by_cases hq : p0 = jJ k
   ·have hb : (kb.toList == pb.toList) = true := by rw [← hkb, ← hpb, hq]; simp
    have d1 := (yy D2).cell 1 _ rfl
    have HLK := yz (yy HLA k hkn hq)
    go_quiet (fail)
    have Zq : Below W3.heap.size W3 (W3.drewN nq) := ⟨rfl, rfl, rfl, Nat.le_refl _, fun _ _ => rfl⟩
    have HST3 := yz ((yy HST2).kept Zq)
    have D3 := yz ((yy D2).kept Zq)
    clear HST2 p2 d0 d1 D2 Zq hb hkb hpb HF HLA HLN
    generalize W3.drewN nq = W4 at HST3 D3 ⊢
    have HRZ : Hid (∀ x ∈ r, x.length ≤ 8000) := yz (fun x hx => by have := yy HSZ x (List.mem_cons_of_mem _ hx); rw [bg] at this; omega)
    obtain ⟨a5, hsl, HRA⟩ : ∃ a5 : Option Addr, (a5 = if m = 1 then some ⟨w.heap.size + 1, 0, none⟩ else some ⟨w.heap.size + 1, 1, none⟩) ∧ Hid (∀ W : World, Below W4.heap.size W4 W → qj W a5 r) := by
     by_cases h1 : m = 1
     ·refine ⟨_, (if_pos h1).symm, yz (fun W hW => .inl ?_)⟩
      have := yy HM
      rw [h1] at this
      simpa using this
     ·refine ⟨_, (if_neg h1).symm, yz (fun W hW => .inr ⟨_, _, rfl, ?_, fun j x e => ?_⟩)⟩
      ·have := (yy HST3).lt2; have := (yy HST3).lt3; have := hW.size; omega
      ·rw [show 1 + j = j + 1 by omega]
       exact eD ((yy HST3).wd (j + 1) x e) hW
    have hrm : r.length = m - 1 := by have := yy HM; simp at this; omega
    have HRM := yz hrm
    go_upto_region 6 with fail
    go_cut [7, 8] (fun ov bv wx => ∃ (ob : Nat) (tb : ByteArray) (nb : Int) (bb : Bool), ov = .pointer (some ⟨ob, 0, none⟩) ∧ bv = .bool bb ∧ Hid (Blk wx ob [.string tb, .int .i64 nb] 77) ∧ Hid (wo s (.returned (.tuple #[.agg #[fnV (eu k), .string tb, .int .i64 nb], .bool bb]))) ∧ Hid (tL w wx (w.heap.size + 1) fb (p0 :: r)) ∧ Hid (Blk wx db [.string kb, .func (.func tf) #[] #[], .func (.func (eu k)) #[] #[]] 111) ∧ w.heap.size < ob)
    case first =>
     have cT : Hid (∀ (W : World) (c : Nat), Below W4.heap.size W4 W → Calls Tryz.prog tf #[.slice a5 (m - 1) c] W fun e w' => gj (rL k r) e ∧ Below W.heap.size W w') := yz (fun W c hW => by rw [← yy HRM]; exact yy HT W r a5 c (yy HRA W hW) (yy HRZ))
     have hd1 := (yy D3).cell 1 _ rfl
     clear HT HRA HRZ HRM hrm
     by_cases h1 : m = 1
     ·rw [if_pos h1] at hsl
      subst h1 hsl
      refine wp_region_held_drew (S := (fun w' => w'.cell? ⟨db, 1, none⟩ = some (.func (.func tf) #[] #[]))) (by kernel_rfl) ?_ (fun hHeld => ?_)
      ·exact hd1
      refine ac 0 rfl ?_
      try simp only [Act.put, ah, ai, aj]
      refine ac 1 rfl ?_
      try simp only [Act.put, ah, ai, aj]
      refine ac 2 rfl ?_
      try simp only [Act.put, ah, ai, aj]
      refine ac 3 rfl ?_
      try simp only [Act.put, ah, ai, aj]
      have HW := yz ((Below.refl W4.heap.size W4).drew)
      have HD := yz ((yy D3).drewn)
      generalize W4.drew = V at HW HD hHeld ⊢
      refine ag 4 8 rfl (fun K hK => ?_) rfl fun K hK => ?_
      ·skip
       go_simp
       refine (yy cT _ _ (yy HW)).mono ?_
       rintro e V1 ⟨he, hx⟩
       obtain ⟨tb, nb, bb, rfl, hrl⟩ := oG hkn (yy HLK) he
       have HRL := yz hrl
       replace HW := yz (ak (yy HW) hx)
       replace HD := yz ((yy HD).kept hx)
       clear hx he hrl
       refine hK.out _ _ ((yy HD).cell 1 _ rfl) (fun hHeld1 => ?_)
       clear hK K hHeld
       refine ac 5 rfl ?_
       try simp only [Act.put, ah, ai, aj]
       refine ac 6 rfl ?_
       try simp only [Act.put, ah, ai, aj]
       refine ac 7 rfl ?_
       try simp only [Act.put, ah, ai, aj]
       refine af 8 rfl fun K hK => ?_
       go_simp
       have HP := yz (ap V1 [.string ⟨#[]⟩, .int .i64 0] 77)
       have hdb : db ≠ V1.heap.size := by have := (yy HD).lt; omega
       have hob2 : W4.heap.size ≤ V1.heap.size := (yy HW).size
       have Zp := an V1 (.cells #[.string ⟨#[]⟩, .int .i64 0] 77)
       replace HW := yz (ak (yy HW) Zp)
       replace HD := yz ((yy HD).kept Zp)
       generalize V1.alloc (.cells #[.string ⟨#[]⟩, .int .i64 0] 77) = U1 at HP HW HD ⊢
       generalize V1.heap.size = ob at HP hdb hob2 ⊢
       clear Zp
       refine hK.out _ _ ((yy HD).cell 1 _ rfl) (fun hHeld2 => ?_)
       clear hK K hHeld1
       refine af 9 rfl fun K hK => ?_
       have r0 := (yy HP).cell 0 _ rfl
       have r1 := (yy HP).cell 1 _ rfl
       have f0 := (yy HP).free 0
       have f1 := (yy HP).free 1
       go_simp
       clear r0 r1 f0 f1
       replace HD := yz (gr (yy HD) hdb 0 (.string tb))
       replace HD := yz (gr (yy HD) hdb 1 (.int .i64 nb))
       refine hK.out _ _ ((yy HD).cell 1 _ rfl) (fun hHeldE => ?_)
       clear hK K
       refine af 10 rfl fun K hK => ?_
       go_simp
       refine hK.out _ _ ((yy HD).cell 1 _ rfl) (fun hHeldF => ?_)
       refine wpAnyH_done (by kernel_rfl) ?_ _
       clear hHeldE hHeldF
       go_wp2_with fail
       go_meet
       exact ⟨ob, tb, nb, bb, rfl, rfl, yz (((yy HP).set 0 _).set 1 _), HRL, yz (((yy HST3).kept (yy HW)).off hob2 (yy HST3).lt3 _ _), HD, by have := (yy HST3).lt1; have := (yy HST3).lt2; have := (yy HST3).lt3; omega⟩
      ·skip
       go_simp
       have HP := yz (ap V [.string ⟨#[]⟩, .int .i64 0] 77)
       have hdb : db ≠ V.heap.size := by have := (yy HD).lt; omega
       have hob2 : W4.heap.size ≤ V.heap.size := (yy HW).size
       have Zp := an V (.cells #[.string ⟨#[]⟩, .int .i64 0] 77)
       replace HW := yz (ak (yy HW) Zp)
       replace HD := yz ((yy HD).kept Zp)
       generalize V.alloc (.cells #[.string ⟨#[]⟩, .int .i64 0] 77) = U1 at HP HW HD ⊢
       generalize V.heap.size = ob at HP hdb hob2 ⊢
       clear Zp
       refine hK.out _ _ ((yy HD).cell 1 _ rfl) (fun hHeld1 => ?_)
       clear hK K hHeld
       refine af 4 rfl fun K hK => ?_
       go_simp
       refine (yy cT _ _ (yy HW)).mono ?_
       rintro e V1 ⟨he, hx⟩
       obtain ⟨tb, nb, bb, rfl, hrl⟩ := oG hkn (yy HLK) he
       have HRL := yz hrl
       replace HW := yz (ak (yy HW) hx)
       replace HD := yz ((yy HD).kept hx)
       replace HP := yz ((yy HP).kept hx)
       clear hx he hrl
       refine hK.out _ _ ((yy HD).cell 1 _ rfl) (fun hHeld2 => ?_)
       clear hK K hHeld1
       refine ac 5 rfl ?_
       try simp only [Act.put, ah, ai, aj]
       refine ac 6 rfl ?_
       try simp only [Act.put, ah, ai, aj]
       refine ac 7 rfl ?_
       try simp only [Act.put, ah, ai, aj]
       refine af 9 rfl fun K hK => ?_
       have r0 := (yy HP).cell 0 _ rfl
       have r1 := (yy HP).cell 1 _ rfl
       have f0 := (yy HP).free 0
       have f1 := (yy HP).free 1
       go_simp
       clear r0 r1 f0 f1
       replace HD := yz (gr (yy HD) hdb 0 (.string tb))
       replace HD := yz (gr (yy HD) hdb 1 (.int .i64 nb))
       refine hK.out _ _ ((yy HD).cell 1 _ rfl) (fun hHeldE => ?_)
       clear hK K
       refine af 10 rfl fun K hK => ?_
       go_simp
       refine hK.out _ _ ((yy HD).cell 1 _ rfl) (fun hHeldF => ?_)
       refine wpAnyH_done (by kernel_rfl) ?_ _
       clear hHeldE hHeldF
       go_wp2_with fail
       go_meet
       exact ⟨ob, tb, nb, bb, rfl, rfl, yz (((yy HP).set 0 _).set 1 _), HRL, yz (((yy HST3).kept (yy HW)).off hob2 (yy HST3).lt3 _ _), HD, by have := (yy HST3).lt1; have := (yy HST3).lt2; have := (yy HST3).lt3; omega⟩
     ·rw [if_neg h1] at hsl
      subst hsl
      have h1' : (m : Int) ≠ 1 := by omega
      have h1'' : (1 : Int) ≤ (m : Int) := by omega
      refine wp_region_held_drew (S := (fun w' => w'.cell? ⟨db, 1, none⟩ = some (.func (.func tf) #[] #[]))) (by kernel_rfl) ?_ (fun hHeld => ?_)
      ·exact hd1
      refine ac 0 rfl ?_
      try simp only [Act.put, ah, ai, aj]
      refine ac 1 rfl ?_
      try simp only [Act.put, ah, ai, aj]
      refine ac 2 rfl ?_
      try simp only [Act.put, ah, ai, aj]
      refine ac 3 rfl ?_
      try simp only [Act.put, ah, ai, aj]
      have HW := yz ((Below.refl W4.heap.size W4).drew)
      have HD := yz ((yy D3).drewn)
      generalize W4.drew = V at HW HD hHeld ⊢
      refine ag 4 8 rfl (fun K hK => ?_) rfl fun K hK => ?_
      ·skip
       go_simp
       refine (yy cT _ _ (yy HW)).mono ?_
       rintro e V1 ⟨he, hx⟩
       obtain ⟨tb, nb, bb, rfl, hrl⟩ := oG hkn (yy HLK) he
       have HRL := yz hrl
       replace HW := yz (ak (yy HW) hx)
       replace HD := yz ((yy HD).kept hx)
       clear hx he hrl
       refine hK.out _ _ ((yy HD).cell 1 _ rfl) (fun hHeld1 => ?_)
       clear hK K hHeld
       refine ac 5 rfl ?_
       try simp only [Act.put, ah, ai, aj]
       refine ac 6 rfl ?_
       try simp only [Act.put, ah, ai, aj]
       refine ac 7 rfl ?_
       try simp only [Act.put, ah, ai, aj]
       refine af 8 rfl fun K hK => ?_
       go_simp
       have HP := yz (ap V1 [.string ⟨#[]⟩, .int .i64 0] 77)
       have hdb : db ≠ V1.heap.size := by have := (yy HD).lt; omega
       have hob2 : W4.heap.size ≤ V1.heap.size := (yy HW).size
       have Zp := an V1 (.cells #[.string ⟨#[]⟩, .int .i64 0] 77)
       replace HW := yz (ak (yy HW) Zp)
       replace HD := yz ((yy HD).kept Zp)
       generalize V1.alloc (.cells #[.string ⟨#[]⟩, .int .i64 0] 77) = U1 at HP HW HD ⊢
       generalize V1.heap.size = ob at HP hdb hob2 ⊢
       clear Zp
       refine hK.out _ _ ((yy HD).cell 1 _ rfl) (fun hHeld2 => ?_)
       clear hK K hHeld1
       refine af 9 rfl fun K hK => ?_
       have r0 := (yy HP).cell 0 _ rfl
       have r1 := (yy HP).cell 1 _ rfl
       have f0 := (yy HP).free 0
       have f1 := (yy HP).free 1
       go_simp
       clear r0 r1 f0 f1
       replace HD := yz (gr (yy HD) hdb 0 (.string tb))
       replace HD := yz (gr (yy HD) hdb 1 (.int .i64 nb))
       refine hK.out _ _ ((yy HD).cell 1 _ rfl) (fun hHeldE => ?_)
       clear hK K
       refine af 10 rfl fun K hK => ?_
       go_simp
       refine hK.out _ _ ((yy HD).cell 1 _ rfl) (fun hHeldF => ?_)
       refine wpAnyH_done (by kernel_rfl) ?_ _
       clear hHeldE hHeldF
       go_wp2_with fail
       go_meet
       exact ⟨ob, tb, nb, bb, rfl, rfl, yz (((yy HP).set 0 _).set 1 _), HRL, yz (((yy HST3).kept (yy HW)).off hob2 (yy HST3).lt3 _ _), HD, by have := (yy HST3).lt1; have := (yy HST3).lt2; have := (yy HST3).lt3; omega⟩
      ·skip
       go_simp
       have HP := yz (ap V [.string ⟨#[]⟩, .int .i64 0] 77)
       have hdb : db ≠ V.heap.size := by have := (yy HD).lt; omega
       have hob2 : W4.heap.size ≤ V.heap.size := (yy HW).size
       have Zp := an V (.cells #[.string ⟨#[]⟩, .int .i64 0] 77)
       replace HW := yz (ak (yy HW) Zp)
       replace HD := yz ((yy HD).kept Zp)
       generalize V.alloc (.cells #[.string ⟨#[]⟩, .int .i64 0] 77) = U1 at HP HW HD ⊢
       generalize V.heap.size = ob at HP hdb hob2 ⊢
       clear Zp
       refine hK.out _ _ ((yy HD).cell 1 _ rfl) (fun hHeld1 => ?_)
       clear hK K hHeld
       refine af 4 rfl fun K hK => ?_
       go_simp
       refine (yy cT _ _ (yy HW)).mono ?_
       rintro e V1 ⟨he, hx⟩
       obtain ⟨tb, nb, bb, rfl, hrl⟩ := oG hkn (yy HLK) he
       have HRL := yz hrl
       replace HW := yz (ak (yy HW) hx)
       replace HD := yz ((yy HD).kept hx)
       replace HP := yz ((yy HP).kept hx)
       clear hx he hrl
       refine hK.out _ _ ((yy HD).cell 1 _ rfl) (fun hHeld2 => ?_)
       clear hK K hHeld1
       refine ac 5 rfl ?_
       try simp only [Act.put, ah, ai, aj]
       refine ac 6 rfl ?_
       try simp only [Act.put, ah, ai, aj]
       refine ac 7 rfl ?_
       try simp only [Act.put, ah, ai, aj]
       refine af 9 rfl fun K hK => ?_
       have r0 := (yy HP).cell 0 _ rfl
       have r1 := (yy HP).cell 1 _ rfl
       have f0 := (yy HP).free 0
       have f1 := (yy HP).free 1
       go_simp
       clear r0 r1 f0 f1
       replace HD := yz (gr (yy HD) hdb 0 (.string tb))
       replace HD := yz (gr (yy HD) hdb 1 (.int .i64 nb))
       refine hK.out _ _ ((yy HD).cell 1 _ rfl) (fun hHeldE => ?_)
       clear hK K
       refine af 10 rfl fun K hK => ?_
       go_simp
       refine hK.out _ _ ((yy HD).cell 1 _ rfl) (fun hHeldF => ?_)
       refine wpAnyH_done (by kernel_rfl) ?_ _
       clear hHeldE hHeldF
       go_wp2_with fail
       go_meet
       exact ⟨ob, tb, nb, bb, rfl, rfl, yz (((yy HP).set 0 _).set 1 _), HRL, yz (((yy HST3).kept (yy HW)).off hob2 (yy HST3).lt3 _ _), HD, by have := (yy HST3).lt1; have := (yy HST3).lt2; have := (yy HST3).lt3; omega⟩
    case rest =>
     obtain ⟨ob, tb, nb, bb, rfl, rfl, HOB, HRL, HST5, HD5, hob⟩ := hcut
     have q0 := (yy HOB).cell 0 _ rfl
     have q1 := (yy HOB).cell 1 _ rfl
     have d2 := (yy HD5).cell 2 _ rfl
     have r0 := (yy HST5).out.cell 0 _ rfl
     have r1 := (yy HST5).out.cell 1 _ rfl
     have r2 := (yy HST5).out.cell 2 _ rfl
     have f0 := (yy HST5).out.free 0
     have f1 := (yy HST5).out.free 1
     have f2 := (yy HST5).out.free 2
     go_wp2_with fail
     refine bodyPost_ret (v := .tuple #[.agg #[fnV (eu k), .string tb, .int .i64 nb], .bool bb]) ?_ rfl ⟨yy HRL, ?_⟩
     ·simp [results, Tryz.results28, go_sem, r0, r1, r2, fnV]
     ·iterate 3 (refine Below.setCell ?_ (Nat.le_refl w.heap.size) _)
      exact (yy HST5).bel
   ·have hb : (kb.toList == pb.toList) = false := De (by rw [← hkb, ← hpb]; exact fun e => hq (by have := congrArg (fun b : ByteArray => b.data.toList) e; simpa using this.symm))
    have HF2 : Hid (∀ j, j < k + 1 → p0 ≠ jJ j) := yz (fun j hj => by
     by_cases e : j = k
     ·rw [e]; exact hq
     ·exact yy HF j (by omega))
    go_quiet (fail)
    have HST3 := yz ((yy HST2).kept (⟨rfl, rfl, rfl, Nat.le_refl _, fun _ _ => rfl⟩ : Below W3.heap.size W3 (W3.drewN nq)))
    clear HST2 p2 d0 D2
    generalize W3.drewN nq = W4 at HST3 ⊢
    go_wp2_with fail
    go_roundw
    case rel => exact ⟨k + 1, by omega, by go_num, HF2, HST3⟩
    case measure => simp [intOf]; omega
  ·have hke : k = 7 := by omega
   subst hke
   have HR : Hid (wo s (.returned (.tuple #[.agg #[.nilFunc, .string ⟨#[]⟩, .int .i64 0], .bool false]))) := yz (.inr ⟨yy HLN (yy HF), _, _, _, .inl rfl, rfl⟩)
   have r0 := (yy HST).out.cell 0 _ rfl
   have r1 := (yy HST).out.cell 1 _ rfl
   have r2 := (yy HST).out.cell 2 _ rfl
   have f0 := (yy HST).out.free 0
   have f1 := (yy HST).out.free 1
   have f2 := (yy HST).out.free 2
   go_wp2
   refine bodyPost_ret (v := .tuple #[.agg #[.nilFunc, .string ⟨#[]⟩, .int .i64 0], .bool false]) ?_ rfl ⟨yy HR, ?_⟩
   ·simp [results, Tryz.results28, go_sem, r0, r1, r2]
   ·iterate 3 (refine Below.setCell ?_ (Nat.le_refl w.heap.size) _)
    exact (yy HST).bel
end
end Go.Proofs.YtlleafjdgblhcaaGreatDoor
