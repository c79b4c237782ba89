/- Several texts in one: TfA, TsB, TfB, TfC, LkB. -/
import Derived.Test.YteoonaanoenjiaaGreatDoorQObeyOwn15
import Derived.Test.YteoonaanoenjiaaGreatDoorQObeyOwn12
import Derived.Test.YteoonaanoenjiaaGreatDoorQObeyOwn1
import Derived.Test.YteoonaanoenjiaaGreatDoorQObeyOwn9
import Derived.Test.YteoonaanoenjiaaGreatDoorQObeyOwn16
import Derived.Test.YteoonaanoenjiaaGreatDoorQObeyOwn19
import Derived.Test.YteoonaanoenjiaaGreatDoorQObeyOwn11
namespace Go.Proofs.YteoonaanoenjiaaGreatDoor
open Go.RowKit Go.Sort
set_option linter.unusedVariables false
set_option maxHeartbeats 2000000 in
set_option maxRecDepth 100000 in
theorem explains_any (A : List Sg) (n : Nat) (t : T4) (a : Option Addr) (c : Nat) (w : World) (hl : A.length = n) (hn : n ≤ 1048576) (ht : rightT t.1 t.2.1 t.2.2.1 t.2.2.2 = true) (hsm : ∀ i, i < n → smallB (sgA A i).2.2.1 (sgA A i).2.2.2.1 (sgA A i).2.2.2.2 = true) (hS : Sights w a A n) :
    Calls Tryz.prog 206 #[.agg #[.int .i64 t.1, .int .i64 t.2.1, .int .i64 t.2.2.1, .int .i64 t.2.2.2], .slice a n c] w fun e w' => e = .returned (.bool (explB A t)) ∧ Below w.heap.size w w' := by
  have HNO : Hid (∀ i, i < n → bringsB t (sgA A i) = false → explB A t = false) := yz (fun i hi h => expl_no (by omega) h)
  have HYE : Hid ((∀ i, i < n → bringsB t (sgA A i) = true) → explB A t = true) := yz (fun h => expl_yes (by rw [hl]; exact h))
  have HSM := yz hsm
  have HT := yz ht
  have HBR : Hid (∀ s, bringsB t s = sameD s.1 (apD t.1 t.2.1 t.2.2.1 t.2.2.2 s.2.2)) := yz (fun s => rfl)
  clear hl hsm ht
  generalize explB A t = R at *
  generalize bringsB t = br at *
  obtain ⟨t1, t2, t3, t4⟩ := t
  simp only at HT HBR ⊢
  have V0 := yz (turnAt_new w t1 t2 t3 t4 35)
  have B0 := yz (below1 w (.cells #[.int .i64 t1, .int .i64 t2, .int .i64 t3, .int .i64 t4] 35))
  rcases hS with rfl | ⟨b, o, rfl, hb, hc⟩
  · have HY := yz (yx HYE (fun i hi => absurd hi (Nat.not_lt_zero _)))
    go_enter Tryz.func206, Tryz.ntmps206
    go_wp2_with fail
    refine wp_loop_rounds 1 ?_
    rw [rounds_succ]
    go_wp2_with fail
    go_ret
    exact ⟨by rw [yx HY]; rfl, yx B0⟩
  have HC := yz hc
  clear hc
  go_enter Tryz.func206, Tryz.ntmps206
  go_wp2_with fail
  go_loopw [9] (fun i wr => ∃ k : Nat, k ≤ n ∧ i = .int .i64 k ∧ Hid (∀ j, j < k → br (sgA A j) = true) ∧ Hid (Below w.heap.size w wr) ∧ Hid (TurnAt wr w.heap.size t1 t2 t3 t4)) (fun i _ => n - (intOf i).toNat)
  case atStart => exact ⟨0, by omega, rfl, yz (fun j hj => absurd hj (Nat.not_lt_zero _)), B0, V0⟩
  case round =>
    clear B0 V0
    obtain ⟨k, hk, rfl, HF, HB, HV⟩ := hrel
    by_cases hkn : k < n
    · have hkn2 : (k : Int) < (n : Int) := by omega
      have hsmk := yx HSM k hkn
      have HBK := yz (yx HBR (sgA A k))
      have HNK := yz (yx HNO k hkn)
      obtain ⟨s, hs⟩ : ∃ t, sgA A k = t := ⟨_, rfl⟩
      have hst := ((yx HC) k hkn).kept (yx HB)
      rw [hs] at hst hsmk HBK HNK
      have HSE := yz hs
      clear hs
      have cA := yz (fun W => apply_small t1 t2 t3 t4 s.2.2 W (yx HT) hsmk)
      clear hsmk
      have Z := below1 wr (.cells #[.int .i64 s.1.1, .int .i64 s.1.2.1, .int .i64 s.1.2.2, .int .i64 s.2.1, .int .i64 s.2.2.1, .int .i64 s.2.2.2.1, .int .i64 s.2.2.2.2] 299)
      have T1 := sgAt_new wr s 299
      have HB1 := yz (below_call (yx HB) Z)
      have HV1 := yz ((yx HV).kept (yx HV).lt Z)
      clear Z HB HV
      generalize apD t1 t2 t3 t4 s.2.2 = q at *
      obtain ⟨q1, q2, q3⟩ := q
      obtain ⟨⟨b1, b2, b3⟩, b4, b5, b6, b7⟩ := s
      have cS : Hid (∀ W : World, Calls Tryz.prog 156 #[.agg #[.int .i64 b1, .int .i64 b2, .int .i64 b3], .agg #[.int .i64 q1, .int .i64 q2, .int .i64 q3]] W fun e w' => e = .returned (.bool (sameD (b1, b2, b3) (q1, q2, q3))) ∧ Below W.heap.size W w') := yz (fun W => sameWay_any b1 b2 b3 q1 q2 q3 W)
      simp only at HBK cA T1 HB1 HV1
      generalize sameD (b1, b2, b3) (q1, q2, q3) = sm at *
      obtain ⟨c0, c1, c2, c3, c4, c5, c6⟩ := hst
      simp only at c0 c1 c2 c3 c4 c5 c6
      go_wp2_with fail
      clear c0 c1 c2 c3 c4 c5 c6
      generalize wr.alloc (.cells #[.int .i64 b1, .int .i64 b2, .int .i64 b3, .int .i64 b4, .int .i64 b5, .int .i64 b6, .int .i64 b7] 299) = W4 at T1 HB1 HV1 ⊢
      generalize wr.heap.size = tb at *
      obtain ⟨x0, x1, x2, x3, x4, x5, x6⟩ := T1
      simp only [Nat.zero_add] at x0 x1 x2 x3 x4 x5 x6
      obtain ⟨y0, y1, y2, y3⟩ := yx HV1
      have r0 := cell_regrown x0
      have r1 := cell_regrown x1
      have r2 := cell_regrown x2
      have r4 := cell_regrown x4
      have r5 := cell_regrown x5
      have r6 := cell_regrown x6
      have s0 := cell_regrown y0
      have s1 := cell_regrown y1
      have s2 := cell_regrown y2
      have s3 := cell_regrown y3
      clear x0 x1 x2 x3 x4 x5 x6 y0 y1 y2 y3
      refine wp_region_quiet_below (by kernel_rfl) (by kernel_rfl) ?_
      repeat (go_big_quiet_step (first | (with_reducible exact Calls.regrown_of (yx cA _)) | (with_reducible exact Calls.regrown_of (yx cS _))))
      refine wpQuiet_nil ?_
      intro _ hw'
      obtain ⟨⟨dq, osq⟩, hw''⟩ := hw'
      subst hw''
      have hx := below_regrown W4 dq osq
      have HB5 := yz (below_call (yx HB1) hx)
      have HV5 := yz ((yx HV1).kept (yx HV1).lt hx)
      generalize grow (redrawn W4 dq) osq = W5 at hx HB5 HV5 ⊢
      clear hx r0 r1 r2 r4 r5 r6 s0 s1 s2 s3 cA cS HB1 HV1
      cases sm
      · have HN := yz (yx HNK (yx HBK))
        go_wp2_with fail
        go_ret
        exact ⟨by rw [yx HN]; rfl, yx HB5⟩
      · have HOK : Hid (br (sgA A k) = true) := yz (by rw [yx HSE]; exact yx HBK)
        go_wp2_with fail
        go_roundw
        case rel => exact ⟨k + 1, by omega, by go_num, yz (fun l hl => by
          by_cases e : l = k
          · rw [e]; exact yx HOK
          · exact yx HF l (by omega)), HB5, HV5⟩
        case measure => simp [intOf]; omega
    · have hkn' : k = n := by omega
      subst hkn'
      have HY := yz (yx HYE (yx HF))
      go_wp2_with fail
      go_ret
      exact ⟨by rw [yx HY]; rfl, yx HB⟩
def outV (r : T4 × Int) : Value := .agg #[.int .i64 r.1.1, .int .i64 r.1.2.1, .int .i64 r.1.2.2.1, .int .i64 r.1.2.2.2, .int .i64 r.2]
theorem below_set5' {w w1 : World} {b : Nat} (h : Below w.heap.size w w1) (hb : w.heap.size ≤ b) (x y z u v : Value) : Below w.heap.size w (((((w1.setCell ⟨b, 0, none⟩ x).setCell ⟨b, 1, none⟩ y).setCell ⟨b, 2, none⟩ z).setCell ⟨b, 3, none⟩ u).setCell ⟨b, 4, none⟩ v) := ((((h.setCell hb _).setCell hb _).setCell hb _).setCell hb _).setCell hb _
set_option maxHeartbeats 4000000 in
set_option maxRecDepth 100000 in
theorem implTurnFor_any (L : List St) (S : List D3) (ids : List Int) (ar br ir : Option Addr) (cr dr er : Nat) (p : Addr) (w : World) (hn : L.length ≤ 1048576) (hcap : L.length ≤ cr) (hc9 : cr ≤ 9223372036854775807) (hn2 : S.length ≤ 1048576) (hcap2 : S.length ≤ dr) (hd9 : dr ≤ 9223372036854775807) (hn3 : ids.length ≤ 1048576) (hS : Stars w ar L L.length) (hD : Dirs w br S S.length) (hI : Nums w ir ids ids.length) (hE : ErrSky p w) :
    Calls Tryz.prog 185 #[.slice ar L.length cr, .slice br S.length dr, .slice ir ids.length er] w fun e w' => e = .returned (outV (forV L S ids)) ∧ Below w.heap.size w w' := by
  have cN := yz (fun (W : World) h1 h2 h3 h4 => implNamed_any L S ids ar br ir cr dr er p W hn hcap hc9 hn2 hcap2 hd9 hn3 h1 h2 h3 h4)
  have cO : Hid (namedB L S ids = true → ∀ W : World, Stars W ar L L.length → Dirs W br S S.length → Nums W ir ids ids.length → ErrSky p W → Calls Tryz.prog 204 #[.slice ar L.length cr, .slice br S.length dr, .slice ir ids.length er] W fun e w' => (∃ v, e = .returned v ∧ w'.ownsRow W.heap.size 299 7 v (sightsTo L S ids ids.length).length (flatSg (sightsTo L S ids ids.length))) ∧ Below W.heap.size W w') := yz (fun h W h1 h2 h3 h4 => by
    obtain ⟨g1, g2, g3, _⟩ := named_parts h
    exact sightsOf_any L S ids ids.length ar br ir cr dr er p W g1 hn hcap hc9 (spots_ok g2).1 g3 h1 h2 h3 h4)
  have HSM : Hid (namedB L S ids = true → ∀ i, i < (sightsTo L S ids ids.length).length → smallB (sgA (sightsTo L S ids ids.length) i).2.2.1 (sgA (sightsTo L S ids ids.length) i).2.2.2.1 (sgA (sightsTo L S ids ids.length) i).2.2.2.2 = true) := yz (fun h i hi => sight_small h hi)
  have HAL : Hid (namedB L S ids = true → (sightsTo L S ids ids.length).length ≤ 6) := yz (fun h => by
    obtain ⟨g1, g2, g3, _⟩ := named_parts h
    have := sights_len L S ids ids.length
    have := (spots_ok g2).1
    omega)
  have H1 : Hid (400 < L.length ∨ 400 < S.length ∨ 400 < ids.length → forV L S ids = ((0, 0, 0, 0), 2)) := yz for_size
  have H2 : Hid (¬ (400 < L.length ∨ 400 < S.length ∨ 400 < ids.length) → namedB L S ids = false → forV L S ids = ((0, 0, 0, 0), 1)) := yz for_form
  have H3 : Hid (¬ (400 < L.length ∨ 400 < S.length ∨ 400 < ids.length) → namedB L S ids = true → (sightsTo L S ids ids.length).length < 2 → forV L S ids = ((0, 0, 0, 0), 10)) := yz for_few
  have H4 : Hid (¬ (400 < L.length ∨ 400 < S.length ∨ 400 < ids.length) → namedB L S ids = true → ¬ (sightsTo L S ids ids.length).length < 2 → forV L S ids = firstT (sightsTo L S ids ids.length) (turnsTo 625)) := yz for_first
  have HS := yz hS
  have HD := yz hD
  have HI := yz hI
  have HE := yz hE
  clear hS hD hI hE hcap hc9 hcap2 hd9
  generalize forV L S ids = R at *
  generalize namedB L S ids = nb at *
  generalize sightsTo L S ids ids.length = A at *
  generalize S.length = m at *
  generalize ids.length = k at *
  generalize L.length = n at *
  have R0 := blk_new w [.int .i64 0, .int .i64 0, .int .i64 0, .int .i64 0, .int .i64 0] 156
  have B0 := below1 w (.cells #[.int .i64 0, .int .i64 0, .int .i64 0, .int .i64 0, .int .i64 0] 156)
  by_cases hbig : 400 < n ∨ 400 < m ∨ 400 < k
  · obtain rfl := yx H1 hbig
    have h' : 400 < n ∨ (¬ 400 < n ∧ 400 < m) ∨ (¬ 400 < n ∧ ¬ 400 < m ∧ 400 < k) := by omega
    rcases h' with h | ⟨h, h1⟩ | ⟨h, h1, h2⟩
    · have g1 : decide ((400 : Int) < (n : Int)) = true := by simp; omega
      have g2 : (400 : Int) < (n : Int) := by omega
      go_enter Tryz.func185, Tryz.ntmps185
      go_wp2_with fail
      exact bodyPost_ret (v := .agg #[.int .i64 0, .int .i64 0, .int .i64 0, .int .i64 0, .int .i64 2]) (by simp [results, Tryz.results185, go_sem]) rfl ⟨rfl, below1 _ _⟩
    · have g1 : decide ((400 : Int) < (n : Int)) = false := by simp; omega
      have g2 : ¬ (400 : Int) < (n : Int) := by omega
      have g3 : decide ((400 : Int) < (m : Int)) = true := by simp; omega
      have g4 : (400 : Int) < (m : Int) := by omega
      go_enter Tryz.func185, Tryz.ntmps185
      go_wp2_with fail
      exact bodyPost_ret (v := .agg #[.int .i64 0, .int .i64 0, .int .i64 0, .int .i64 0, .int .i64 2]) (by simp [results, Tryz.results185, go_sem]) rfl ⟨rfl, below1 _ _⟩
    · have g1 : decide ((400 : Int) < (n : Int)) = false := by simp; omega
      have g2 : ¬ (400 : Int) < (n : Int) := by omega
      have g3 : decide ((400 : Int) < (m : Int)) = false := by simp; omega
      have g4 : ¬ (400 : Int) < (m : Int) := by omega
      have g5 : decide ((400 : Int) < (k : Int)) = true := by simp; omega
      have g6 : (400 : Int) < (k : Int) := by omega
      go_enter Tryz.func185, Tryz.ntmps185
      go_wp2_with fail
      exact bodyPost_ret (v := .agg #[.int .i64 0, .int .i64 0, .int .i64 0, .int .i64 0, .int .i64 2]) (by simp [results, Tryz.results185, go_sem]) rfl ⟨rfl, below1 _ _⟩
  have g1 : decide ((400 : Int) < (n : Int)) = false := by simp; omega
  have g2 : ¬ (400 : Int) < (n : Int) := by omega
  have g3 : decide ((400 : Int) < (m : Int)) = false := by simp; omega
  have g4 : ¬ (400 : Int) < (m : Int) := by omega
  have g5 : decide ((400 : Int) < (k : Int)) = false := by simp; omega
  have g6 : ¬ (400 : Int) < (k : Int) := by omega
  go_enter Tryz.func185, Tryz.ntmps185
  go_wp2_with fail
  generalize w.alloc (.cells #[.int .i64 0, .int .i64 0, .int .i64 0, .int .i64 0, .int .i64 0] 156) = W0 at R0 B0 ⊢
  refine (yx cN _ ((yx HS).kept B0) ((yx HD).kept B0) ((yx HI).kept B0) ((yx HE).kept B0)).mono ?_
  rintro e W1 ⟨rfl, hx⟩
  have R1 := R0.kept hx
  have B1 := below_call B0 hx
  clear hx R0 B0
  cases nb
  · obtain rfl := yx H2 hbig rfl
    obtain ⟨r0, r1, r2, r3, r4⟩ := bcs5 (R1)
    obtain ⟨f0, f1, f2, f3, f4⟩ := bfs5 (R1)
    go_wp2_with fail
    exact bodyPost_ret (v := .agg #[.int .i64 0, .int .i64 0, .int .i64 0, .int .i64 0, .int .i64 1]) (by simp [results, Tryz.results185, go_sem, r0, r1, r2, r3, r4]) rfl ⟨rfl, below_set5' B1 (Nat.le_refl _) _ _ _ _ _⟩
  have cO' := yz (yx cO rfl)
  have HSM' := yz (yx HSM rfl)
  have hal6 := yx HAL rfl
  have H3' := yz (yx H3 hbig rfl)
  have H4' := yz (yx H4 hbig rfl)
  clear cO HSM HAL H1 H2 H3 H4 cN hbig g1 g2 g3 g4 g5 g6
  go_wp2_with fail
  refine (yx cO' _ ((yx HS).kept B1) ((yx HD).kept B1) ((yx HI).kept B1) ((yx HE).kept B1)).mono ?_
  rintro e W2 ⟨⟨v2, rfl, ho⟩, hx⟩
  obtain ⟨a2, c2, rfl⟩ := oSlice ho
  have HSG := yz (sights_own ho)
  have R2 := R1.kept hx
  have B2 := below_call B1 hx
  clear ho hx R1 B1 cO'
  by_cases h2 : A.length < 2
  · obtain rfl := yx H3' h2
    have h2' : (A.length : Int) < 2 := by omega
    obtain ⟨r0, r1, r2, r3, r4⟩ := bcs5 (R2)
    obtain ⟨f0, f1, f2, f3, f4⟩ := bfs5 (R2)
    go_wp2_with fail
    exact bodyPost_ret (v := .agg #[.int .i64 0, .int .i64 0, .int .i64 0, .int .i64 0, .int .i64 10]) (by simp [results, Tryz.results185, go_sem, r0, r1, r2, r3, r4]) rfl ⟨rfl, below_set5' B2 (Nat.le_refl _) _ _ _ _ _⟩
  have h2' : ¬ (A.length : Int) < 2 := by omega
  have HR := yz (yx H4' h2)
  have cT : Hid (∀ W : World, Calls Tryz.prog 205 #[] W fun e w' => ∃ g c, e = .returned (.slice (some ⟨g, 0, none⟩) (turnsTo 625).length c) ∧ Turn4s w' g (turnsTo 625) ∧ Below W.heap.size W w') := yz (fun W => (implTurns_any W).mono fun e w' h => by
    obtain ⟨⟨v, he, ho⟩, hb⟩ := h
    obtain ⟨g, c, rfl, hg, ht⟩ := turn4s_of ho turns_some
    exact ⟨g, c, he, ht, hb⟩)
  have HTR : Hid (∀ k, k < (turnsTo 625).length → rightT (tA (turnsTo 625) k).1 (tA (turnsTo 625) k).2.1 (tA (turnsTo 625) k).2.2.1 (tA (turnsTo 625) k).2.2.2 = true) := yz (fun k hk => turns_right hk)
  have hTL := turns_len 625
  have cE : Hid (∀ (t : T4) (a : Option Addr) (W : World), rightT t.1 t.2.1 t.2.2.1 t.2.2.2 = true → Sights W a A A.length → Calls Tryz.prog 206 #[.agg #[.int .i64 t.1, .int .i64 t.2.1, .int .i64 t.2.2.1, .int .i64 t.2.2.2], .slice a A.length c2] W fun e w' => e = .returned (.bool (explB A t)) ∧ Below W.heap.size W w') := yz (fun t a W ht hs => explains_any A A.length t a c2 W rfl (by omega) ht (yx HSM') hs)
  clear HSM' H3' H4' h2
  have HF1 : Hid (∀ k, k < (turnsTo 625).length → (∀ j, j < k → explB A (tA (turnsTo 625) j) = false) → explB A (tA (turnsTo 625) k) = true → firstT A (turnsTo 625) = (tA (turnsTo 625) k, 0)) := yz (fun k hk h h1 => first_at hk h h1)
  have HF2 : Hid ((∀ j, j < (turnsTo 625).length → explB A (tA (turnsTo 625) j) = false) → firstT A (turnsTo 625) = ((0, 0, 0, 0), 6)) := yz first_none
  generalize turnsTo 625 = T at *
  generalize hlt : T.length = tn at *
  have HTL := yz hlt
  clear hlt
  generalize A.length = al at *
  go_wp2_with fail
  refine (yx cT _).mono ?_
  rintro e W3 ⟨g, c3, rfl, ht, hx⟩
  have HT3 := yz ht
  have HS3 := yz ((yx HSG).kept hx)
  have HR3 := yz (R2.kept hx)
  have HB3 := yz (below_call B2 hx)
  clear ht hx R2 B2 HSG cT
  go_wp2_with fail
  go_loopw [40] (fun i wr => ∃ j : Nat, j ≤ tn ∧ i = .int .i64 j ∧ Hid (∀ l, l < j → explB A (tA T l) = false) ∧ Hid (Turn4s wr g T) ∧ Hid (Sights wr a2 A al) ∧ Hid (Blk wr w.heap.size [.int .i64 0, .int .i64 0, .int .i64 0, .int .i64 0, .int .i64 0] 156) ∧ Hid (Below w.heap.size w wr)) (fun i _ => tn - (intOf i).toNat)
  case atStart => exact ⟨0, by omega, rfl, yz (fun j hj => absurd hj (Nat.not_lt_zero _)), HT3, HS3, HR3, HB3⟩
  case round =>
    clear HT3 HS3 HR3 HB3
    obtain ⟨j, hj, rfl, HF, HT, HS', HRB, HB⟩ := hrel
    by_cases hjn : j < tn
    · have hjn2 : (j : Int) < (tn : Int) := by omega
      obtain ⟨c0, c1, c2', c3'⟩ := (yx HT).2 j (by rw [yx HTL]; exact hjn)
      have htr := yx HTR j hjn
      have HF1j := yz (yx HF1 j hjn (yx HF))
      obtain ⟨t, ht⟩ : ∃ t, tA T j = t := ⟨_, rfl⟩
      rw [ht] at c0 c1 c2' c3' htr HF1j
      have HTE := yz ht
      clear ht
      have cEt := yz (fun W h => yx cE t a2 W htr h)
      clear htr
      have HEX : Hid (explB A (tA T j) = explB A t) := yz (by rw [yx HTE])
      generalize explB A t = ev at *
      obtain ⟨t1, t2, t3, t4⟩ := t
      simp only at c0 c1 c2' c3' cEt
      have Z := below1 wr (.cells #[.int .i64 t1, .int .i64 t2, .int .i64 t3, .int .i64 t4] 35)
      have TA1 := yz (turnAt_new wr t1 t2 t3 t4 35)
      have HT1 := yz ((yx HT).kept Z)
      have HS1 := yz ((yx HS').kept Z)
      have HR1 := yz ((yx HRB).kept Z)
      have HB1 := yz (below_call (yx HB) Z)
      clear Z HT HS' HRB HB
      go_wp2_with fail
      clear c0 c1 c2' c3'
      generalize wr.alloc (.cells #[.int .i64 t1, .int .i64 t2, .int .i64 t3, .int .i64 t4] 35) = W4 at TA1 HT1 HS1 HR1 HB1 ⊢
      generalize wr.heap.size = tb at *
      refine (yx cEt _ (yx HS1)).mono ?_
      rintro e W5 ⟨rfl, hx⟩
      have TA2 := yz ((yx TA1).kept (yx TA1).lt hx)
      have HT2 := yz ((yx HT1).kept hx)
      have HS2 := yz ((yx HS1).kept hx)
      have HR2 := yz ((yx HR1).kept hx)
      have HB2 := yz (below_call (yx HB1) hx)
      clear hx TA1 HT1 HS1 HR1 HB1 cEt
      cases ev
      · go_wp2_with fail
        go_roundw
        case rel => exact ⟨j + 1, by omega, by go_num, yz (fun l hl => by
          by_cases e : l = j
          · rw [e]; exact yx HEX
          · exact yx HF l (by omega)), HT2, HS2, HR2, HB2⟩
        case measure => simp [intOf]; omega
      · have HRV : Hid (R = ((t1, t2, t3, t4), 0)) := yz (by rw [yx HR]; exact yx HF1j rfl)
        obtain ⟨x0, x1, x2, x3⟩ := yx TA2
        obtain ⟨r0, r1, r2, r3, r4⟩ := bcs5 (yx HR2)
        obtain ⟨f0, f1, f2, f3, f4⟩ := bfs5 (yx HR2)
        go_wp2_with fail
        exact bodyPost_ret (v := .agg #[.int .i64 t1, .int .i64 t2, .int .i64 t3, .int .i64 t4, .int .i64 0]) (by simp [results, Tryz.results185, go_sem, r0, r1, r2, r3, r4]) rfl ⟨by rw [yx HRV]; rfl, below_set5' (yx HB2) (Nat.le_refl _) _ _ _ _ _⟩
    · have hjn' : j = tn := by omega
      subst hjn'
      have HRV : Hid (R = ((0, 0, 0, 0), 6)) := yz (by rw [yx HR]; exact yx HF2 (yx HF))
      obtain ⟨r0, r1, r2, r3, r4⟩ := bcs5 (yx HRB)
      obtain ⟨f0, f1, f2, f3, f4⟩ := bfs5 (yx HRB)
      go_wp2_with fail
      exact bodyPost_ret (v := .agg #[.int .i64 0, .int .i64 0, .int .i64 0, .int .i64 0, .int .i64 6]) (by simp [results, Tryz.results185, go_sem, r0, r1, r2, r3, r4]) rfl ⟨by rw [yx HRV]; rfl, below_set5' (yx HB) (Nat.le_refl _) _ _ _ _ _⟩
set_option maxHeartbeats 4000000 in
set_option maxRecDepth 100000 in
theorem specTurns_any (w : World) :
    Calls Tryz.prog 178 #[] w fun e w' => (∃ v, e = .returned v ∧ w'.ownsRow w.heap.size 35 4 v (turnsTo 625).length (flatT (turnsTo 625))) ∧ Below w.heap.size w w' := by
  obtain ⟨i0, hinf, hz0, hz1, hz2⟩ := info_parts info_turn
  have hm8 : 1000 ≤ maxLen := by decide +kernel
  have HO0 := yz (ownT_none w w.heap.size (Nat.le_refl _))
  have HB0 := yz (below1 w (.cells #[] 35))
  go_enter Tryz.func178, Tryz.ntmps178
  go_wp2_with fail
  generalize w.alloc (.cells #[] 35) = W0 at HO0 HB0 ⊢
  go_loopw [1, 2] (fun v kk wr => ∃ i : Nat, i ≤ 5 ∧ kk = .int .i64 ((i : Int) - 2) ∧ Hid (wr.ownsRow w.heap.size 35 4 v (turnsTo (i * 125)).length (flatT (turnsTo (i * 125)))) ∧ Hid (Below w.heap.size w wr)) (fun _ kk _ => (3 - intOf kk).toNat)
  case atStart => exact ⟨0, by omega, rfl, HO0, HB0⟩
  case round =>
    clear HO0 HB0
    obtain ⟨i, hi, rfl, HO1, HB1⟩ := hrel
    by_cases hi5 : i < 5
    · have hi2 : (i : Int) - 2 ≤ 2 := by omega
      go_wp2_with fail
      go_loopw [1, 3] (fun v kk wr => ∃ j : Nat, j ≤ 5 ∧ kk = .int .i64 ((j : Int) - 2) ∧ Hid (wr.ownsRow w.heap.size 35 4 v (turnsTo (i * 125 + j * 25)).length (flatT (turnsTo (i * 125 + j * 25)))) ∧ Hid (Below w.heap.size w wr)) (fun _ kk _ => (3 - intOf kk).toNat)
      case atStart => exact ⟨0, by omega, rfl, yz (by have h := yx HO1; simpa using h), HB1⟩
      case round =>
        clear HO1 HB1
        obtain ⟨j, hj, rfl, HO2, HB2⟩ := hrel
        by_cases hj5 : j < 5
        · have hj2 : (j : Int) - 2 ≤ 2 := by omega
          go_wp2_with fail
          go_loopw [1, 4] (fun v kk wr => ∃ l : Nat, l ≤ 5 ∧ kk = .int .i64 ((l : Int) - 2) ∧ Hid (wr.ownsRow w.heap.size 35 4 v (turnsTo (i * 125 + j * 25 + l * 5)).length (flatT (turnsTo (i * 125 + j * 25 + l * 5)))) ∧ Hid (Below w.heap.size w wr)) (fun _ kk _ => (3 - intOf kk).toNat)
          case atStart => exact ⟨0, by omega, rfl, yz (by have h := yx HO2; simpa using h), HB2⟩
          case round =>
            clear HO2 HB2
            obtain ⟨l, hl, rfl, HO3, HB3⟩ := hrel
            by_cases hl5 : l < 5
            · have hl2 : (l : Int) - 2 ≤ 2 := by omega
              go_wp2_with fail
              go_loopw [1, 5] (fun v kk wr => ∃ m : Nat, m ≤ 5 ∧ kk = .int .i64 ((m : Int) - 2) ∧ Hid (wr.ownsRow w.heap.size 35 4 v (turnsTo (i * 125 + j * 25 + l * 5 + m)).length (flatT (turnsTo (i * 125 + j * 25 + l * 5 + m)))) ∧ Hid (Below w.heap.size w wr)) (fun _ kk _ => (3 - intOf kk).toNat)
              case atStart => exact ⟨0, by omega, rfl, yz (by have h := yx HO3; simpa using h), HB3⟩
              case round =>
                clear HO3 HB3
                obtain ⟨m, hm, rfl, HO4, HB4⟩ := hrel
                by_cases hm5 : m < 5
                · have hm2 : (m : Int) - 2 ≤ 2 := by omega
                  have hta := tOf_at i j l m hj5 hl5 hm5
                  have hpl := turns_len (i * 125 + j * 25 + l * 5 + m)
                  have HSN := yz (turns_snoc (i * 125 + j * 25 + l * 5 + m))
                  rw [hta] at HSN
                  clear hta
                  generalize hke : i * 125 + j * 25 + l * 5 + m = k at *
                  have hkb : k < 625 := by omega
                  have HKE : Hid (i * 125 + j * 25 + l * 5 + (m + 1) = k + 1) := yz (by omega)
                  clear hke
                  have Z := below1 wr (.cells #[.int .i64 ((i : Int) - 2), .int .i64 ((j : Int) - 2), .int .i64 ((l : Int) - 2), .int .i64 ((m : Int) - 2)] 35)
                  have HBa := yz (below_call (yx HB4) Z)
                  have HOa := yz (oKept (yx HO4) Z)
                  have TA1 := turnAt_new wr ((i : Int) - 2) ((j : Int) - 2) ((l : Int) - 2) ((m : Int) - 2) 35
                  clear Z HO4 HB4
                  go_wp2_with fail
                  obtain ⟨p, hp⟩ : ∃ p, p = (i : Int) - 2 := ⟨_, rfl⟩
                  obtain ⟨q, hq⟩ : ∃ p, p = (j : Int) - 2 := ⟨_, rfl⟩
                  obtain ⟨r, hr⟩ : ∃ p, p = (l : Int) - 2 := ⟨_, rfl⟩
                  obtain ⟨s, hs⟩ : ∃ p, p = (m : Int) - 2 := ⟨_, rfl⟩
                  generalize wr.alloc (.cells #[.int .i64 ((i : Int) - 2), .int .i64 ((j : Int) - 2), .int .i64 ((l : Int) - 2), .int .i64 ((m : Int) - 2)] 35) = W1 at HBa HOa TA1 ⊢
                  refine (specTRight_any _ _ _ _ _).mono ?_
                  rintro e W2 ⟨rfl, hx⟩
                  have TA2 := TA1.kept TA1.lt hx
                  have HBb := yz (below_call (yx HBa) hx)
                  have HOb := yz (oKept (yx HOa) hx)
                  clear hx TA1 HBa HOa
                  rw [← hp, ← hq, ← hr, ← hs] at HSN
                  rw [← hp, ← hq, ← hr, ← hs] at TA2
                  have HG : Hid (goodT (p, q, r, s) = rightT ((i : Int) - 2) ((j : Int) - 2) ((l : Int) - 2) ((m : Int) - 2)) := yz (by rw [← hp, ← hq, ← hr, ← hs]; rfl)
                  generalize wr.heap.size = tb at *
                  cases hrt : rightT ((i : Int) - 2) ((j : Int) - 2) ((l : Int) - 2) ((m : Int) - 2)
                  · rw [hrt] at HG
                    rw [yx HG, if_neg (by simp), List.append_nil] at HSN
                    have HO3 : Hid (W2.ownsRow w.heap.size 35 4 u1 (turnsTo (i * 125 + j * 25 + l * 5 + (m + 1))).length (flatT (turnsTo (i * 125 + j * 25 + l * 5 + (m + 1))))) := yz (by rw [yx HKE, yx HSN]; exact yx HOb)
                    clear hp hq hr hs
                    go_wp2_with fail
                    go_roundw
                    case rel => exact ⟨m + 1, by omega, by go_num, HO3, HBb⟩
                    case measure => simp [intOf] <;> omega
                  · rw [hrt] at HG
                    rw [yx HG, if_pos rfl] at HSN
                    obtain ⟨e0, e1, e2, e3⟩ := TA2
                    have Z1 := below1 W2 (.cells #[.int .i64 p, .int .i64 q, .int .i64 r, .int .i64 s] 35)
                    have hown := oKept (yx HOb) Z1
                    have B3 := below_call (yx HBb) Z1
                    have hsz := (yx HBb).size
                    have HP := yz hp
                    have HQ := yz hq
                    have HR := yz hr
                    have HS := yz hs
                    clear Z1 HOb HBb hp hq hr hs
                    generalize turnsTo k = Pk at *
                    go_wp2_with (at_builtin; refine wpList_append_own _ rfl _ _ 239 rfl w.heap.size 35 i0 (.agg #[.int .i64 0, .int .i64 0, .int .i64 0, .int .i64 0]) 4 32 Tryz.underlying239 hinf hz0 hz1 hz2 rfl (by decide) _ _ _ rfl hown ⟨W2.heap.size, 0, none⟩ 1 1 (flatT [(p, q, r, s)]) rfl rfl ?d2 (fun u hu => flatT_cell hu) ?d3 ?d4 ?d5 ?_)
                    case d2 => first | exact fun j u h => h | exact new_cells _ _ _
                    case d3 => omega
                    case d4 => omega
                    case d5 => first | omega | (simp; omega)
                    intro v7 V7 hown7 hgrow7 _
                    have HB8 := yz (oBelow B3 hown hgrow7 (by simp; omega))
                    have HO8 : Hid (V7.ownsRow w.heap.size 35 4 v7 (turnsTo (i * 125 + j * 25 + l * 5 + (m + 1))).length (flatT (turnsTo (i * 125 + j * 25 + l * 5 + (m + 1))))) := yz (by rw [yx HKE, yx HSN, flatT_app, List.length_append]; exact hown7)
                    clear hown7 hgrow7 hown B3 e0 e1 e2 e3
                    go_wp2_with fail
                    go_roundw
                    case rel => exact ⟨m + 1, by omega, by go_num, HO8, HB8⟩
                    case measure => simp [intOf] <;> omega
                · have hm2 : ¬ (m : Int) - 2 ≤ 2 := by omega
                  have hm5' : m = 5 := by omega
                  subst hm5'
                  have HOx : Hid (wr.ownsRow w.heap.size 35 4 u1 (turnsTo (i * 125 + j * 25 + (l + 1) * 5)).length (flatT (turnsTo (i * 125 + j * 25 + (l + 1) * 5)))) := yz (by rw [show i * 125 + j * 25 + (l + 1) * 5 = i * 125 + j * 25 + l * 5 + 5 by omega]; exact yx HO4)
                  go_wp2_with fail
                  go_roundw
                  case rel => exact ⟨l + 1, by omega, by go_num, HOx, HB4⟩
                  case measure => simp [intOf] <;> omega
            · have hl2 : ¬ (l : Int) - 2 ≤ 2 := by omega
              have hl5' : l = 5 := by omega
              subst hl5'
              have HOx : Hid (wr.ownsRow w.heap.size 35 4 u1 (turnsTo (i * 125 + (j + 1) * 25)).length (flatT (turnsTo (i * 125 + (j + 1) * 25)))) := yz (by rw [show i * 125 + (j + 1) * 25 = i * 125 + j * 25 + 5 * 5 by omega]; exact yx HO3)
              go_wp2_with fail
              go_roundw
              case rel => exact ⟨j + 1, by omega, by go_num, HOx, HB3⟩
              case measure => simp [intOf] <;> omega
        · have hj2 : ¬ (j : Int) - 2 ≤ 2 := by omega
          have hj5' : j = 5 := by omega
          subst hj5'
          have HOx : Hid (wr.ownsRow w.heap.size 35 4 u1 (turnsTo ((i + 1) * 125)).length (flatT (turnsTo ((i + 1) * 125)))) := yz (by rw [show (i + 1) * 125 = i * 125 + 5 * 25 by omega]; exact yx HO2)
          go_wp2_with fail
          go_roundw
          case rel => exact ⟨i + 1, by omega, by go_num, HOx, HB2⟩
          case measure => simp [intOf] <;> omega
    · have hi2 : ¬ (i : Int) - 2 ≤ 2 := by omega
      have hi5' : i = 5 := by omega
      subst hi5'
      go_wp2_with fail
      go_ret
      exact ⟨⟨_, rfl, yx HO1⟩, yx HB1⟩
def turnedTo (L : List St) (S : List D3) (ids : List Int) (t : T4) (n : Nat) : Prop := ∀ j, j < n → (decide (ids.getD j 0 = 0) || bringsB t (sgOf L S ids j)) = true
theorem turnedTo_step {L : List St} {S : List D3} {ids : List Int} {t : T4} {n : Nat} (h : turnedTo L S ids t n) (h1 : (decide (ids.getD n 0 = 0) || bringsB t (sgOf L S ids n)) = true) : turnedTo L S ids t (n + 1) := fun l hl => by
  by_cases e : l = n
  · rw [e]; exact h1
  · exact h l (by omega)
set_option maxHeartbeats 4000000 in
set_option maxRecDepth 100000 in
theorem l06Turned_any (L : List St) (S : List D3) (ids : List Int) (t : T4) (k : Nat) (ar br ir : Option Addr) (cr dr er : Nat) (w : World) (hk6 : k ≤ 6) (hn : L.length ≤ 12) (ht : rightT t.1 t.2.1 t.2.2.1 t.2.2.2 = true) (hS : Stars w ar L L.length) (hD : Dirs w br S k) (hI : Nums w ir ids k)
    (hids : ∀ i, i < k → ids.getD i 0 ≠ 0 → smallB (atV L L.length (ids.getD i 0)).1 (atV L L.length (ids.getD i 0)).2.1 (atV L L.length (ids.getD i 0)).2.2 = true ∧ wideD (vA S i) = true) :
    Calls Tryz.prog 179 #[.slice ar L.length cr, .slice br k dr, .slice ir k er, .agg #[.int .i64 t.1, .int .i64 t.2.1, .int .i64 t.2.2.1, .int .i64 t.2.2.2]] w fun e w' => e = .returned (.bool (turnedI L S ids t k)) ∧ Below w.heap.size w w' := by
  have cA := yz (fun (W : World) (q : Int) hW => l04At_any L L.length q ar cr W (by omega) hW)
  have HNO : Hid (∀ i, i < k → (decide (ids.getD i 0 = 0) || bringsB t (sgOf L S ids i)) = false → turnedI L S ids t k = false) := yz (fun i hi h => turnedI_no hi h)
  have HYE : Hid (turnedTo L S ids t k → turnedI L S ids t k = true) := yz (fun h => turnedI_yes h)
  have HST : Hid (∀ n, turnedTo L S ids t n → (decide (ids.getD n 0 = 0) || bringsB t (sgOf L S ids n)) = true → turnedTo L S ids t (n + 1)) := yz (fun n h h1 => turnedTo_step h h1)
  have H0 : Hid (turnedTo L S ids t 0) := yz (fun j hj => absurd hj (Nat.not_lt_zero _))
  have HBR : Hid (∀ i, bringsB t (sgOf L S ids i) = sameD (vA S i) (apD t.1 t.2.1 t.2.2.1 t.2.2.2 (atV L L.length (ids.getD i 0)))) := yz (fun i => rfl)
  have HDS := yz hids
  have HT := yz ht
  have HS := yz hS
  have HD := yz hD
  clear hS hD hids ht
  generalize turnedI L S ids t k = R at *
  generalize turnedTo L S ids t = TT at *
  generalize bringsB t = br' at *
  obtain ⟨t1, t2, t3, t4⟩ := t
  simp only at HT HBR ⊢
  generalize L.length = n at *
  have V0 := yz (turnAt_new w t1 t2 t3 t4 35)
  have B0 := yz (below1 w (.cells #[.int .i64 t1, .int .i64 t2, .int .i64 t3, .int .i64 t4] 35))
  rcases hI with rfl | ⟨ib, io, rfl, hib, hic⟩
  · have HY := yz (yx HYE (yx H0))
    go_enter Tryz.func179, Tryz.ntmps179
    go_wp2_with fail
    refine wp_loop_rounds 1 ?_
    rw [rounds_succ]
    go_wp2_with fail
    go_ret
    exact ⟨by rw [yx HY]; rfl, yx B0⟩
  have HIC := yz hic
  clear hic
  go_enter Tryz.func179, Tryz.ntmps179
  go_wp2_with fail
  go_loopw [9] (fun kk wr => ∃ i : Nat, i ≤ k ∧ kk = .int .i64 i ∧ Hid (TT i) ∧ Hid (TurnAt wr w.heap.size t1 t2 t3 t4) ∧ Hid (Below w.heap.size w wr)) (fun kk _ => k - (intOf kk).toNat)
  case atStart => exact ⟨0, by omega, rfl, H0, V0, B0⟩
  case round =>
    clear V0 B0
    obtain ⟨i, hi, rfl, HF, HV, HB⟩ := hrel
    by_cases hik : i < k
    · have hik2 : (i : Int) < (k : Int) := by omega
      have ci : wr.cell? ⟨ib, io + i, none⟩ = some (.int .i64 (ids.getD i 0)) := by rw [(yx HB).cell (p := ⟨ib, io + i, none⟩) hib]; exact yx HIC i hik
      have HSTi := yz (yx HST i (yx HF))
      have HNOi := yz (yx HNO i hik)
      have hds := yx HDS i hik
      rw [yx HBR i] at HSTi HNOi
      generalize ids.getD i 0 = x at *
      by_cases hx0 : x = 0
      · subst hx0
        have HF2 := yz (yx HSTi rfl)
        have ri := cell_regrown ci
        clear ci
        have hnz : ((0 : Int) == 0) = true := rfl
        have hnz2 : decide ((0 : Int) ≠ 0) = false := by decide
        go_wp2_with fail
        refine wp_region_quiet_below (by kernel_rfl) (by kernel_rfl) ?_
        repeat (go_big_quiet_step (fail))
        refine wpQuiet_nil ?_
        intro _ hw'
        obtain ⟨⟨dq, osq⟩, hw''⟩ := hw'
        subst hw''
        have hx := below_regrown wr dq osq
        have HB5 := yz (below_call (yx HB) hx)
        have HV5 := yz ((yx HV).kept (yx HV).lt hx)
        generalize grow (redrawn wr dq) osq = W5 at hx HB5 HV5 ⊢
        clear hx ri HB HV
        go_wp2_with fail
        go_roundw
        case rel => exact ⟨i + 1, by omega, by go_num, HF2, HV5, HB5⟩
        case measure => simp [intOf] <;> omega
      have hx0' : (x == 0) = false := by simp [hx0]
      have hx1' : (x != 0) = true := by simp [hx0]
      obtain ⟨hsm, hwd⟩ := hds hx0
      rw [decide_eq_false hx0, Bool.false_or] at HSTi HNOi
      have cAx := yz (fun (W : World) hW => yx cA W x hW)
      rcases yx HD with h | ⟨bb, bo, rfl, hbb, hbc⟩
      · omega
      have hsp := (hbc i hik).kept hbb (yx HB)
      clear hbc
      generalize vA S i = sv at *
      generalize atV L n x = q at *
      have cP := yz (fun W => l03Apply_small t1 t2 t3 t4 q W (yx HT) hsm)
      have cQ := yz (fun W => l02Same_within (apD t1 t2 t3 t4 q) sv W (apD_within (yx HT) hsm) (wide_million hwd))
      clear hds hsm hwd
      generalize sameD sv (apD t1 t2 t3 t4 q) = sm at *
      generalize apD t1 t2 t3 t4 q = r at *
      obtain ⟨q1, q2, q3⟩ := q
      obtain ⟨r1, r2, r3⟩ := r
      obtain ⟨v1, v2, v3⟩ := sv
      unfold vecV at cAx
      simp only at cAx cP cQ
      obtain ⟨c0, c1, c2⟩ := hsp
      simp only at c0 c1 c2
      obtain ⟨y0, y1, y2, y3⟩ := yx HV
      have ri := cell_regrown ci
      have rc0 := cell_regrown c0
      have rc1 := cell_regrown c1
      have rc2 := cell_regrown c2
      have ry0 := cell_regrown y0
      have ry1 := cell_regrown y1
      have ry2 := cell_regrown y2
      have ry3 := cell_regrown y3
      clear ci c0 c1 c2 y0 y1 y2 y3
      have HS1 := yz ((yx HS).kept (yx HB))
      go_wp2_with fail
      refine wp_region_quiet_below (by kernel_rfl) (by kernel_rfl) ?_
      repeat (go_big_quiet_step (first | (with_reducible exact Calls.regrown_of (yx cAx _ ((yx HS1).kept (below_regrown _ _ _)))) | (with_reducible exact Calls.regrown_of (yx cP _)) | (with_reducible exact Calls.regrown_of (yx cQ _))))
      refine wpQuiet_nil ?_
      intro _ hw'
      obtain ⟨⟨dq, osq⟩, hw''⟩ := hw'
      subst hw''
      have hx := below_regrown wr dq osq
      have HB5 := yz (below_call (yx HB) hx)
      have HV5 := yz ((yx HV).kept (yx HV).lt hx)
      generalize grow (redrawn wr dq) osq = W5 at hx HB5 HV5 ⊢
      clear hx ri rc0 rc1 rc2 ry0 ry1 ry2 ry3 cAx cP cQ HB HV HS1
      cases sm
      · have HN := yz (yx HNOi rfl)
        go_wp2_with fail
        go_ret
        exact ⟨by rw [yx HN]; rfl, yx HB5⟩
      · have HF2 := yz (yx HSTi rfl)
        go_wp2_with fail
        go_roundw
        case rel => exact ⟨i + 1, by omega, by go_num, HF2, HV5, HB5⟩
        case measure => simp [intOf] <;> omega
    · have hik' : i = k := by omega
      subst hik'
      have HY := yz (yx HYE (yx HF))
      go_wp2_with fail
      go_ret
      exact ⟨by rw [yx HY]; rfl, yx HB⟩
def cntF (ids : List Int) : Nat → Nat
  | 0 => 0
  | k + 1 => cntF ids k + if ids.getD k 0 ≠ 0 then 1 else 0
theorem cntF_eq (L : List St) (S : List D3) (ids : List Int) : ∀ k, cntF ids k = (sightsTo L S ids k).length
  | 0 => rfl
  | k + 1 => by
    have ih := cntF_eq L S ids k
    show cntF ids k + (if ids.getD k 0 ≠ 0 then 1 else 0) = _
    rw [sights_count, ih]
theorem cntF_le (ids : List Int) : ∀ k, cntF ids k ≤ k
  | 0 => Nat.le_refl _
  | k + 1 => by
    have ih := cntF_le ids k
    show cntF ids k + (if ids.getD k 0 ≠ 0 then 1 else 0) ≤ k + 1
    split <;> omega
set_option maxHeartbeats 4000000 in
set_option maxRecDepth 100000 in
theorem l06For_any (L : List St) (S : List D3) (ids : List Int) (ar br ir : Option Addr) (cr dr er : Nat) (w : World) (hN : namedB L S ids = true) (hS : Stars w ar L L.length) (hD : Dirs w br S S.length) (hI : Nums w ir ids ids.length) :
    Calls Tryz.prog 144 #[.slice ar L.length cr, .slice br S.length dr, .slice ir ids.length er] w fun e w' => e = .returned (outV (if (sightsTo L S ids ids.length).length < 2 then ((0, 0, 0, 0), 10) else firstT (sightsTo L S ids ids.length) (turnsTo 625))) ∧ Below w.heap.size w w' := by
  obtain ⟨g1, g2, g3, _⟩ := named_parts hN
  have hm6 := (spots_ok g2).1
  have hn12 := (sky_ok g1).1
  have cU : Hid (∀ (t : T4) (W : World), rightT t.1 t.2.1 t.2.2.1 t.2.2.2 = true → Stars W ar L L.length → Dirs W br S ids.length → Nums W ir ids ids.length → Calls Tryz.prog 179 #[.slice ar L.length cr, .slice br ids.length dr, .slice ir ids.length er, .agg #[.int .i64 t.1, .int .i64 t.2.1, .int .i64 t.2.2.1, .int .i64 t.2.2.2]] W fun e w' => e = .returned (.bool (explB (sightsTo L S ids ids.length) t)) ∧ Below W.heap.size W w') := yz (fun t W ht h1 h2 h3 => by
    rw [← turned_eq]
    exact l06Turned_any L S ids t ids.length ar br ir cr dr er W (by omega) hn12 ht h1 h2 h3 (fun i hi h0 => named_each hN hi h0))
  have HCE := yz (cntF_eq L S ids ids.length)
  have cT : Hid (∀ W : World, Calls Tryz.prog 178 #[] W fun e w' => ∃ g c, e = .returned (.slice (some ⟨g, 0, none⟩) (turnsTo 625).length c) ∧ Turn4s w' g (turnsTo 625) ∧ Below W.heap.size W w') := yz (fun W => (specTurns_any W).mono fun e w' h => by
    obtain ⟨⟨v, he, ho⟩, hb⟩ := h
    obtain ⟨g, c, rfl, hg, ht⟩ := turn4s_of ho turns_some
    exact ⟨g, c, he, ht, hb⟩)
  have HTR : Hid (∀ k, k < (turnsTo 625).length → rightT (tA (turnsTo 625) k).1 (tA (turnsTo 625) k).2.1 (tA (turnsTo 625) k).2.2.1 (tA (turnsTo 625) k).2.2.2 = true) := yz (fun k hk => turns_right hk)
  have hTL := turns_len 625
  have HS := yz hS
  have HD := yz hD
  clear hS hD hN g1 g2
  rw [← g3] at HD hm6
  rw [← g3]
  clear g3
  generalize sightsTo L S ids ids.length = A at *
  have HF1 : Hid (∀ k, k < (turnsTo 625).length → (∀ j, j < k → explB A (tA (turnsTo 625) j) = false) → explB A (tA (turnsTo 625) k) = true → firstT A (turnsTo 625) = (tA (turnsTo 625) k, 0)) := yz (fun k hk h h1 => first_at hk h h1)
  have HF2 : Hid ((∀ j, j < (turnsTo 625).length → explB A (tA (turnsTo 625) j) = false) → firstT A (turnsTo 625) = ((0, 0, 0, 0), 6)) := yz first_none
  generalize turnsTo 625 = T at *
  generalize hlt : T.length = tn at *
  have HTL := yz hlt
  clear hlt
  generalize L.length = n at *
  generalize A.length = al at *
  obtain ⟨RV, hRV⟩ : ∃ r, r = (if al < 2 then ((0, 0, 0, 0), 10) else firstT A T) := ⟨_, rfl⟩
  rw [← hRV]
  have HRA : Hid (al < 2 → RV = ((0, 0, 0, 0), 10)) := yz (fun h => by rw [hRV, if_pos h])
  have HRB : Hid (¬ al < 2 → RV = firstT A T) := yz (fun h => by rw [hRV, if_neg h])
  clear hRV
  have HI := yz hI
  clear hI
  generalize ids.length = k at *
  have R0 := yz (blk_new w [.int .i64 0, .int .i64 0, .int .i64 0, .int .i64 0, .int .i64 0] 156)
  have B0 := yz (below1 w (.cells #[.int .i64 0, .int .i64 0, .int .i64 0, .int .i64 0, .int .i64 0] 156))
  go_enter Tryz.func144, Tryz.ntmps144
  go_wp2_with fail
  generalize w.alloc (.cells #[.int .i64 0, .int .i64 0, .int .i64 0, .int .i64 0, .int .i64 0] 156) = W0 at R0 B0 ⊢
  go_loopw [7, 8] (fun c kk wr => ∃ i : Nat, i ≤ k ∧ kk = .int .i64 i ∧ c = .int .i64 (cntF ids i : Int) ∧ wr = W0) (fun _ kk _ => k - (intOf kk).toNat)
  case atStart => exact ⟨0, by omega, rfl, rfl, rfl⟩
  case round =>
    obtain ⟨i, hi, rfl, rfl, rfl⟩ := hrel
    by_cases hik : i < k
    · have hik2 : (i : Int) < (k : Int) := by omega
      rcases yx HI with h | ⟨ib, io, rfl, hib, hic⟩
      · omega
      have ci : wr.cell? ⟨ib, io + i, none⟩ = some (.int .i64 (ids.getD i 0)) := by rw [(yx B0).cell (p := ⟨ib, io + i, none⟩) hib]; exact hic i hik
      clear hic
      have HCN : Hid (cntF ids (i + 1) = cntF ids i + if ids.getD i 0 ≠ 0 then 1 else 0) := yz rfl
      have hcl := cntF_le ids i
      generalize ids.getD i 0 = x at *
      generalize hci : cntF ids i = ct at *
      clear hci
      by_cases hx0 : x = 0
      · subst hx0
        rw [if_neg (by simp)] at HCN
        go_wp2_with fail
        go_roundw
        case rel => exact ⟨i + 1, by omega, by go_num, by rw [yx HCN]; rfl, by first | rfl | trivial⟩
        case measure => simp [intOf] <;> omega
      · have hx0' : (x == 0) = false := by simp [hx0]
        rw [if_pos hx0] at HCN
        go_wp2_with fail
        go_roundw
        case rel => exact ⟨i + 1, by omega, by go_num, by rw [yx HCN]; go_num, by first | rfl | trivial⟩
        case measure => simp [intOf] <;> omega
    · have hik' : i = k := by omega
      subst hik'
      rw [yx HCE]
      clear HCE
      by_cases h2 : al < 2
      · have h2' : (al : Int) < 2 := by omega
        have HRV := yz (yx HRA h2)
        obtain ⟨r0, r1, r2, r3, r4⟩ := bcs5 (yx R0)
        obtain ⟨f0, f1, f2, f3, f4⟩ := bfs5 (yx R0)
        go_wp2_with fail
        exact bodyPost_ret (v := .agg #[.int .i64 0, .int .i64 0, .int .i64 0, .int .i64 0, .int .i64 10]) (by simp [results, Tryz.results144, go_sem, r0, r1, r2, r3, r4]) rfl ⟨by rw [yx HRV]; rfl, below_set5' (yx B0) (Nat.le_refl _) _ _ _ _ _⟩
      have h2' : ¬ (al : Int) < 2 := by omega
      have HR := yz (yx HRB h2)
      clear HRA HRB h2
      go_wp2_with fail
      refine (yx cT _).mono ?_
      rintro e W3 ⟨g, c3, rfl, ht, hx⟩
      have HT3 := yz ht
      have HR3 := yz ((yx R0).kept hx)
      have HB3 := yz (below_call (yx B0) hx)
      clear ht hx R0 B0 cT
      go_wp2_with fail
      go_loopw [10] (fun kk wr => ∃ j : Nat, j ≤ tn ∧ kk = .int .i64 j ∧ Hid (∀ l, l < j → explB A (tA T l) = false) ∧ Hid (Turn4s wr g T) ∧ Hid (Blk wr w.heap.size [.int .i64 0, .int .i64 0, .int .i64 0, .int .i64 0, .int .i64 0] 156) ∧ Hid (Below w.heap.size w wr)) (fun kk _ => tn - (intOf kk).toNat)
      case atStart => exact ⟨0, by omega, rfl, yz (fun j hj => absurd hj (Nat.not_lt_zero _)), HT3, HR3, HB3⟩
      case round =>
        clear HT3 HR3 HB3
        obtain ⟨j, hj, rfl, HF, HT, HRB, HB⟩ := hrel
        by_cases hjn : j < tn
        · have hjn2 : (j : Int) < (tn : Int) := by omega
          obtain ⟨c0, c1, c2', c3'⟩ := (yx HT).2 j (by rw [yx HTL]; exact hjn)
          have htr := yx HTR j hjn
          have HF1j := yz (yx HF1 j hjn (yx HF))
          obtain ⟨t, ht⟩ : ∃ t, tA T j = t := ⟨_, rfl⟩
          rw [ht] at c0 c1 c2' c3' htr HF1j
          have HTE := yz ht
          clear ht
          have cEt := yz (fun W h1 h2 h3 => yx cU t W htr h1 h2 h3)
          clear htr
          have HEX : Hid (explB A (tA T j) = explB A t) := yz (by rw [yx HTE])
          generalize explB A t = ev at *
          obtain ⟨t1, t2, t3, t4⟩ := t
          simp only at c0 c1 c2' c3' cEt
          go_wp2_with fail
          refine (yx cEt _ ((yx HS).kept (yx HB)) ((yx HD).kept (yx HB)) ((yx HI).kept (yx HB))).mono ?_
          rintro e W5 ⟨rfl, hx⟩
          have HT2 := yz ((yx HT).kept hx)
          have HR2 := yz ((yx HRB).kept hx)
          have HB2 := yz (below_call (yx HB) hx)
          have x0 := cellKept c0 hx
          have x1 := cellKept c1 hx
          have x2 := cellKept c2' hx
          have x3 := cellKept c3' hx
          clear hx HT HRB HB cEt c0 c1 c2' c3'
          cases ev
          · clear x0 x1 x2 x3
            go_wp2_with fail
            go_roundw
            case rel => exact ⟨j + 1, by omega, by go_num, yz (fun l hl => by
              by_cases e : l = j
              · rw [e]; exact yx HEX
              · exact yx HF l (by omega)), HT2, HR2, HB2⟩
            case measure => simp [intOf]; omega
          · have HRV : Hid (RV = ((t1, t2, t3, t4), 0)) := yz (by rw [yx HR]; exact yx HF1j rfl)
            obtain ⟨r0, r1, r2, r3, r4⟩ := bcs5 (yx HR2)
            obtain ⟨f0, f1, f2, f3, f4⟩ := bfs5 (yx HR2)
            go_wp2_with fail
            exact bodyPost_ret (v := .agg #[.int .i64 t1, .int .i64 t2, .int .i64 t3, .int .i64 t4, .int .i64 0]) (by simp [results, Tryz.results144, go_sem, r0, r1, r2, r3, r4]) rfl ⟨by rw [yx HRV]; rfl, below_set5' (yx HB2) (Nat.le_refl _) _ _ _ _ _⟩
        · have hjn' : j = tn := by omega
          subst hjn'
          have HRV : Hid (RV = ((0, 0, 0, 0), 6)) := yz (by rw [yx HR]; exact yx HF2 (yx HF))
          obtain ⟨r0, r1, r2, r3, r4⟩ := bcs5 (yx HRB)
          obtain ⟨f0, f1, f2, f3, f4⟩ := bfs5 (yx HRB)
          go_wp2_with fail
          exact bodyPost_ret (v := .agg #[.int .i64 0, .int .i64 0, .int .i64 0, .int .i64 0, .int .i64 6]) (by simp [results, Tryz.results144, go_sem, r0, r1, r2, r3, r4]) rfl ⟨by rw [yx HRV]; rfl, below_set5' (yx HB) (Nat.le_refl _) _ _ _ _ _⟩
end Go.Proofs.YteoonaanoenjiaaGreatDoor
namespace Go.Proofs.YteoonaanoenjiaaGreatDoor
open Go.RowKit Go.Sort
set_option linter.unusedVariables false
set_option linter.unusedSimpArgs false
def turnOfV (L : List St) (S : List D3) : T4 × Int := if identK L S = 0 then forV L S (identL L S) else ((0, 0, 0, 0), identK L S)
def lookR (t : Tk) (S : List D3) : Tk :=
  if t.mode ≠ 0 ∧ 2 ≤ cntN (matchL t.L t.A t.B t.C t.D S) then trackT { t with fr := t.fr + 1 } t.A t.B t.C t.D
  else if (turnOfV t.L S).2 = 0 then trackT { t with fr := t.fr + 1 } (turnOfV t.L S).1.1 (turnOfV t.L S).1.2.1 (turnOfV t.L S).1.2.2.1 (turnOfV t.L S).1.2.2.2
  else unseenT { t with fr := t.fr + 1 }
theorem prow_nums {w : World} {lo hi n : Nat} {v : Value} {ids : List Int} (hl : ids.length = n) (h : PRow w 2 1 lo hi n v (fun j => .int .i64 (ids.getD j 0))) : ∃ a k, v = .slice a n k ∧ Nums w a ids n := by
  rcases h with ⟨rfl, a, k, rfl⟩ | ⟨g, k, rfl, _, _, hr⟩
  · exact ⟨a, k, rfl, .inl rfl⟩
  · exact ⟨_, k, rfl, nums_of hr⟩
set_option maxHeartbeats 2000000 in
set_option maxRecDepth 100000 in
theorem countAt_any (L : List St) (S : List D3) (ar br : Option Addr) (cr dr : Nat) (a b c d : Int) (p : Addr) (w : World) (hn : L.length ≤ 1048576) (hcap : L.length ≤ cr) (hc9 : cr ≤ 9223372036854775807) (hn2 : S.length ≤ 1048576) (hcap2 : S.length ≤ dr) (hd9 : dr ≤ 9223372036854775807) (hS : Stars w ar L L.length) (hD : Dirs w br S S.length) (hE : ErrSky p w) :
    Calls Tryz.prog 149 #[.agg #[.slice ar L.length cr], .agg #[.int .i64 a, .int .i64 b, .int .i64 c, .int .i64 d], .slice br S.length dr] w fun e w' => e = .returned (.int .i64 (cntN (matchL L a b c d S) : Int)) ∧ Below w.heap.size w w' := by
  have B0 := yz (below2 w (.cells #[.slice ar L.length cr] 90) (.cells #[.int .i64 a, .int .i64 b, .int .i64 c, .int .i64 d] 35))
  have cM := yz (implMatchAt_any L S ar br cr dr a b c d p _ hn hcap hc9 hn2 hcap2 hd9 (hS.kept (yx B0)) (hD.kept (yx B0)) (hE.kept (yx B0)))
  have hl := match_len L a b c d S
  have HN := yz (fun (W : World) (x : Option Addr) (k : Nat) h => countNamed_any (matchL L a b c d S) x k W (by omega) h)
  clear hS hD hE
  go_enter Tryz.func149, Tryz.ntmps149
  go_wp2_with fail
  refine (yx cM).mono ?_
  rintro e w1 ⟨⟨v, rfl, hp⟩, hx⟩
  obtain ⟨x, k, rfl, hv⟩ := prow_nums rfl hp
  have B1 := yz (below_call (yx B0) hx)
  have cN := yz (yx HN w1 x k hv)
  generalize (matchL L a b c d S).length = m at *
  clear hx hp hv B0 cM HN
  go_wp2_with fail
  refine (yx cN).mono ?_
  rintro e w2 ⟨rfl, hw⟩
  rw [hw]
  clear hw w2
  go_wp2_with fail
  go_ret
  exact ⟨rfl, yx B1⟩
theorem outP_nums {w' : World} {B : Nat} {ids : List Int} {cnt code : Int} {e : Ending} (h : OutP w' B ids cnt code e) : ∃ a k, e = .returned (.agg #[.slice a ids.length k, .int .i64 cnt, .int .i64 code]) ∧ Nums w' a ids ids.length := by
  obtain ⟨v, he, h⟩ := h
  rcases h with ⟨h0, rfl⟩ | ⟨g, rfl, _, hr⟩
  · exact ⟨none, 0, by rw [he, h0]; rfl, .inl (by rw [h0]; rfl)⟩
  · exact ⟨_, _, he, nums_of hr⟩
theorem outI_nums {w' : World} {B : Nat} {ids : List Int} {cnt code : Int} {e : Ending} (h : OutI w' B ids cnt code e) : ∃ a k, e = .returned (.agg #[.slice a ids.length k, .int .i64 cnt, .int .i64 code]) ∧ Nums w' a ids ids.length := by
  obtain ⟨a, k, he, hp⟩ := prow_outI h
  obtain ⟨x, y, hv, hN⟩ := prow_nums (ids := ids) rfl (show PRow w' 2 1 B w'.heap.size ids.length (.slice a ids.length k) (fun j => .int .i64 (ids.getD j 0)) from hp)
  rw [hv] at he
  exact ⟨x, y, he, hN⟩
theorem res_turnOf (T : Array Value) (X : World) (b : Nat) (p q r s k : Int) (hT : T.getD 4 undef = .pointer (some ⟨b, 0, none⟩)) (h : Blk X b [.int .i64 p, .int .i64 q, .int .i64 r, .int .i64 s, .int .i64 k] 156) : (results Tryz.f151 T).run Tryz.prog X = .ok (.agg #[.int .i64 p, .int .i64 q, .int .i64 r, .int .i64 s, .int .i64 k]) X := by
  obtain ⟨h0, h1, h2, h3, h4⟩ := bcs5 (h)
  simp only [Array.getD_eq_getD_getElem?] at hT
  simp [results, Tryz.results151, go_sem, hT, h0, h1, h2, h3, h4]
set_option maxHeartbeats 4000000 in
set_option maxRecDepth 100000 in
theorem turnOfS_any (L : List St) (S : List D3) (ar br : Option Addr) (cr dr : Nat) (p : Addr) (w : World) (hn : L.length ≤ 1048576) (hcap : L.length ≤ cr) (hc9 : cr ≤ 9223372036854775807) (hn2 : S.length ≤ 1048576) (hcap2 : S.length ≤ dr) (hd9 : dr ≤ 9223372036854775807) (hS : Stars w ar L L.length) (hD : Dirs w br S S.length) (hA : ∀ y, ar = some y → y.block < w.heap.size) (hB : ∀ y, br = some y → y.block < w.heap.size) (hE : ErrSky p w) :
    Calls Tryz.prog 151 #[.agg #[.slice ar L.length cr], .slice br S.length dr] w fun e w' => e = .returned (.agg #[.int .i64 (turnOfV L S).1.1, .int .i64 (turnOfV L S).1.2.1, .int .i64 (turnOfV L S).1.2.2.1, .int .i64 (turnOfV L S).1.2.2.2, .int .i64 (turnOfV L S).2]) ∧ Below w.heap.size w w' := by
  have B0 := yz (below2 w (.cells #[.slice ar L.length cr] 90) (.cells #[.int .i64 0, .int .i64 0, .int .i64 0, .int .i64 0, .int .i64 0] 156))
  have A0 := yz ((blk_new w [.slice ar L.length cr] 90).alloc (.cells #[.int .i64 0, .int .i64 0, .int .i64 0, .int .i64 0, .int .i64 0] 156))
  have R0 := yz (by simpa using blk_new (w.alloc (.cells #[.slice ar L.length cr] 90)) [.int .i64 0, .int .i64 0, .int .i64 0, .int .i64 0, .int .i64 0] 156 : Blk ((w.alloc (.cells #[.slice ar L.length cr] 90)).alloc (.cells #[.int .i64 0, .int .i64 0, .int .i64 0, .int .i64 0, .int .i64 0] 156)) (w.heap.size + 1) [.int .i64 0, .int .i64 0, .int .i64 0, .int .i64 0, .int .i64 0] 156)
  have hl0 := (yx B0).size
  have cI := yz (identify_any L S ar br cr dr p _ hn hn2 hcap hc9 hcap2 hd9 (hS.kept (yx B0)) (hD.kept (yx B0)) (fun y e => Nat.lt_of_lt_of_le (hA y e) hl0) (fun y e => Nat.lt_of_lt_of_le (hB y e) hl0) (hE.kept (yx B0)))
  have hid := identL_len L S
  have cF := yz (fun (W : World) (x : Option Addr) (k : Nat) (h : Below w.heap.size w W) hN => implTurnFor_any L S (identL L S) ar br x cr dr k p W hn hcap hc9 hn2 hcap2 hd9 (by omega) (hS.kept h) (hD.kept h) hN (hE.kept h))
  have hY : identK L S = 0 → Hid (turnOfV L S = forV L S (identL L S)) := fun h => yz (by unfold turnOfV; rw [if_pos h])
  have hN : identK L S ≠ 0 → Hid (turnOfV L S = ((0, 0, 0, 0), identK L S)) := fun h => yz (by unfold turnOfV; rw [if_neg h])
  clear hS hD hE hl0 hA hB
  go_enter Tryz.func151, Tryz.ntmps151
  go_wp2_with fail
  refine (yx cI).mono ?_
  rintro e w1 ⟨hO, hx⟩
  obtain ⟨x, k, rfl, hv⟩ := outP_nums hO
  generalize identK L S = kd at *
  generalize identC L S = ct at *
  have Z := below1 w1 (.cells #[.slice x (identL L S).length k, .int .i64 ct, .int .i64 kd] 196)
  have B1 := yz (below_call (below_call (yx B0) hx) Z)
  have A1 := yz (((yx A0).kept hx).kept Z)
  have R1 := yz (((yx R0).kept hx).kept Z)
  have I1 := yz (blk_new w1 [.slice x (identL L S).length k, .int .i64 ct, .int .i64 kd] 196)
  have N1 := yz (hv.kept Z)
  clear hx hO hv Z B0 A0 R0 cI
  by_cases h0 : kd = 0
  · have HO := hY h0
    clear hY hN
    have cF2 := yz (yx cF _ x k (yx B1) (yx N1))
    rw [← yx HO] at cF2
    clear cF N1 HO
    obtain ⟨⟨⟨t1, t2, t3, t4⟩, tc⟩, htv⟩ : ∃ z, turnOfV L S = z := ⟨_, rfl⟩
    rw [htv] at cF2
    have HTV := yz htv
    clear htv
    have cF3 : Hid (Calls Tryz.prog 185 #[.slice ar L.length cr, .slice br S.length dr, .slice x (identL L S).length k] (w1.alloc (.cells #[.slice x (identL L S).length k, .int .i64 ct, .int .i64 kd] 196)) fun e w' => e = .returned (.agg #[.int .i64 t1, .int .i64 t2, .int .i64 t3, .int .i64 t4, .int .i64 tc]) ∧ Below (w1.alloc (.cells #[.slice x (identL L S).length k, .int .i64 ct, .int .i64 kd] 196)).heap.size (w1.alloc (.cells #[.slice x (identL L S).length k, .int .i64 ct, .int .i64 kd] 196)) w') := cF2
    clear cF2
    generalize (identL L S).length = nI at *
    have a0 := (yx A1).cell 0 _ rfl
    obtain ⟨i0, i1, i2⟩ := bcs3 (yx I1)
    subst h0
    go_wp2_with fail
    clear a0 i0 i1 i2
    refine (yx cF3).mono ?_
    rintro e w2 ⟨rfl, hx⟩
    have B2 := yz (below_call (yx B1) hx)
    have R2 := yz ((yx R1).kept hx)
    clear hx
    obtain ⟨r0, r1, r2, r3, r4⟩ := bcs5 (yx R2)
    obtain ⟨g0, g1, g2, g3, g4⟩ := bfs5 (yx R2)
    go_wp2_with fail
    clear r0 r1 r2 r3 r4 g0 g1 g2 g3 g4
    rw [yx HTV]
    refine bodyPost_ret (v := .agg #[.int .i64 t1, .int .i64 t2, .int .i64 t3, .int .i64 t4, .int .i64 tc]) ?_ rfl ⟨rfl, ?_⟩
    · exact res_turnOf _ _ (w.heap.size + 1) _ _ _ _ _ rfl ((((((yx R2).set 0 _).set 1 _).set 2 _).set 3 _).set 4 _)
    · iterate 5 (refine belowSet ?_ (show w.heap.size ≤ w.heap.size + 1 by omega) _ _)
      exact yx B2
  · have HO := hN h0
    clear hY hN cF
    generalize (identL L S).length = nI at *
    obtain ⟨i0, i1, i2⟩ := bcs3 (yx I1)
    obtain ⟨r0, r1, r2, r3, r4⟩ := bcs5 (yx R1)
    obtain ⟨g0, g1, g2, g3, g4⟩ := bfs5 (yx R1)
    go_wp2_with fail
    clear r0 r1 r2 r3 r4 g0 g1 g2 g3 g4 i0 i1 i2
    rw [yx HO]
    refine bodyPost_ret (v := .agg #[.int .i64 0, .int .i64 0, .int .i64 0, .int .i64 0, .int .i64 kd]) ?_ rfl ⟨rfl, ?_⟩
    · exact res_turnOf _ _ (w.heap.size + 1) _ _ _ _ _ rfl ((((((yx R1).set 0 _).set 1 _).set 2 _).set 3 _).set 4 _)
    · iterate 5 (refine belowSet ?_ (show w.heap.size ≤ w.heap.size + 1 by omega) _ _)
      exact yx B1
theorem res_lookedAt (T : Array Value) (X : World) (b : Nat) (v : Value) (lim mode A B C D coast fr : Int) (hT : T.getD 4 undef = .pointer (some ⟨b, 0, none⟩)) (h : TkAt X b v lim mode A B C D coast fr) : (results Tryz.f114 T).run Tryz.prog X = .ok (.agg #[v, .int .i64 lim, .int .i64 mode, .int .i64 A, .int .i64 B, .int .i64 C, .int .i64 D, .int .i64 coast, .int .i64 fr]) X := by
  obtain ⟨h0, h1, h2, h3, h4, h5, h6, h7, h8⟩ := h
  simp only [Array.getD_eq_getD_getElem?] at hT
  simp [results, Tryz.results114, go_sem, hT, h0, h1, h2, h3, h4, h5, h6, h7, h8]
theorem res_ilook (T : Array Value) (X : World) (b : Nat) (v : Value) (lim mode A B C D coast fr code : Int) (hT : T.getD 4 undef = .pointer (some ⟨b, 0, none⟩)) (h : TkO X b v lim mode A B C D coast fr code) : (results Tryz.f71 T).run Tryz.prog X = .ok (.agg #[v, .int .i64 lim, .int .i64 mode, .int .i64 A, .int .i64 B, .int .i64 C, .int .i64 D, .int .i64 coast, .int .i64 fr, .int .i64 code]) X := by
  obtain ⟨⟨h0, h1, h2, h3, h4, h5, h6, h7, h8⟩, h9⟩ := h
  simp only [Array.getD_eq_getD_getElem?] at hT
  simp [results, Tryz.results71, go_sem, hT, h0, h1, h2, h3, h4, h5, h6, h7, h8, h9]
end Go.Proofs.YteoonaanoenjiaaGreatDoor
