/- Several texts in one: TfA, TsB. -/
import Derived.Test.YtjdehbpgdplolaaGreatDoorQLookOwn16
import Derived.Test.YtjdehbpgdplolaaGreatDoorQLookOwn10
import Derived.Test.YtjdehbpgdplolaaGreatDoorQLookOwn6
namespace Go.Proofs.YtjdehbpgdplolaaGreatDoor
open Go.RowKit Go.Sort
set_option linter.unusedVariables false

set_option maxHeartbeats 2000000 in
set_option maxRecDepth 100000 in
theorem explains_any (A : List Sg) (n : Nat) (t : T4) (a : Option Addr) (c : Nat) (w : World) (hl : A.length = n) (hn : n ≤ 1048576) (ht : rightT t.1 t.2.1 t.2.2.1 t.2.2.2 = true) (hsm : ∀ i, i < n → smallB (sgA A i).2.2.1 (sgA A i).2.2.2.1 (sgA A i).2.2.2.2 = true) (hS : Sights w a A n) :
    Calls Tryz.prog 99 #[.agg #[.int .i64 t.1, .int .i64 t.2.1, .int .i64 t.2.2.1, .int .i64 t.2.2.2], .slice a n c] w fun e w' => e = .returned (.bool (explB A t)) ∧ Below w.heap.size w w' := by
  have HNO : Hid (∀ i, i < n → bringsB t (sgA A i) = false → explB A t = false) := hide (fun i hi h => expl_no (by omega) h)
  have HYE : Hid ((∀ i, i < n → bringsB t (sgA A i) = true) → explB A t = true) := hide (fun h => expl_yes (by rw [hl]; exact h))
  have HSM := hide hsm
  have HT := hide ht
  have HBR : Hid (∀ s, bringsB t s = sameD s.1 (apD t.1 t.2.1 t.2.2.1 t.2.2.2 s.2.2)) := hide (fun s => rfl)
  clear hl hsm ht
  generalize explB A t = R at *
  generalize bringsB t = br at *
  obtain ⟨t1, t2, t3, t4⟩ := t
  simp only at HT HBR ⊢
  have V0 := hide (turnAt_new w t1 t2 t3 t4 31)
  have B0 := hide (below1 w (.cells #[.int .i64 t1, .int .i64 t2, .int .i64 t3, .int .i64 t4] 31))
  rcases hS with rfl | ⟨b, o, rfl, hb, hc⟩
  · have HY := hide (unhide HYE (fun i hi => absurd hi (Nat.not_lt_zero _)))
    go_enter Tryz.func99, Tryz.ntmps99
    go_wp2_with fail
    refine wp_loop_rounds 1 ?_
    rw [rounds_succ]
    go_wp2_with fail
    go_ret
    exact ⟨by rw [unhide HY]; rfl, unhide B0⟩
  have HC := hide hc
  clear hc
  go_enter Tryz.func99, Tryz.ntmps99
  go_wp2_with fail
  go_loopw [9] (fun i wr => ∃ k : Nat, k ≤ n ∧ i = .int .i64 k ∧ Hid (∀ j, j < k → br (sgA A j) = true) ∧ Hid (Below w.heap.size w wr) ∧ Hid (TurnAt wr w.heap.size t1 t2 t3 t4)) (fun i _ => n - (intOf i).toNat)
  case atStart => exact ⟨0, by omega, rfl, hide (fun j hj => absurd hj (Nat.not_lt_zero _)), B0, V0⟩
  case round =>
    clear B0 V0
    obtain ⟨k, hk, rfl, HF, HB, HV⟩ := hrel
    by_cases hkn : k < n
    · have hkn2 : (k : Int) < (n : Int) := by omega
      have hsmk := unhide HSM k hkn
      have HBK := hide (unhide HBR (sgA A k))
      have HNK := hide (unhide HNO k hkn)
      obtain ⟨s, hs⟩ : ∃ t, sgA A k = t := ⟨_, rfl⟩
      have hst := ((unhide HC) k hkn).kept (unhide HB)
      rw [hs] at hst hsmk HBK HNK
      have HSE := hide hs
      clear hs
      have cA := hide (fun W => apply_small t1 t2 t3 t4 s.2.2 W (unhide HT) hsmk)
      clear hsmk
      have Z := below1 wr (.cells #[.int .i64 s.1.1, .int .i64 s.1.2.1, .int .i64 s.1.2.2, .int .i64 s.2.1, .int .i64 s.2.2.1, .int .i64 s.2.2.2.1, .int .i64 s.2.2.2.2] 161)
      have T1 := sgAt_new wr s 161
      have HB1 := hide (below_call (unhide HB) Z)
      have HV1 := hide ((unhide HV).kept (unhide HV).lt Z)
      clear Z HB HV
      generalize apD t1 t2 t3 t4 s.2.2 = q at *
      obtain ⟨q1, q2, q3⟩ := q
      obtain ⟨⟨b1, b2, b3⟩, b4, b5, b6, b7⟩ := s
      have cS : Hid (∀ W : World, Calls Tryz.prog 76 #[.agg #[.int .i64 b1, .int .i64 b2, .int .i64 b3], .agg #[.int .i64 q1, .int .i64 q2, .int .i64 q3]] W fun e w' => e = .returned (.bool (sameD (b1, b2, b3) (q1, q2, q3))) ∧ Below W.heap.size W w') := hide (fun W => sameWay_any b1 b2 b3 q1 q2 q3 W)
      simp only at HBK cA T1 HB1 HV1
      generalize sameD (b1, b2, b3) (q1, q2, q3) = sm at *
      obtain ⟨c0, c1, c2, c3, c4, c5, c6⟩ := hst
      simp only at c0 c1 c2 c3 c4 c5 c6
      go_wp2_with fail
      clear c0 c1 c2 c3 c4 c5 c6
      generalize wr.alloc (.cells #[.int .i64 b1, .int .i64 b2, .int .i64 b3, .int .i64 b4, .int .i64 b5, .int .i64 b6, .int .i64 b7] 161) = W4 at T1 HB1 HV1 ⊢
      generalize wr.heap.size = tb at *
      obtain ⟨x0, x1, x2, x3, x4, x5, x6⟩ := T1
      simp only [Nat.zero_add] at x0 x1 x2 x3 x4 x5 x6
      obtain ⟨y0, y1, y2, y3⟩ := unhide HV1
      have r0 := cell_regrown x0
      have r1 := cell_regrown x1
      have r2 := cell_regrown x2
      have r4 := cell_regrown x4
      have r5 := cell_regrown x5
      have r6 := cell_regrown x6
      have s0 := cell_regrown y0
      have s1 := cell_regrown y1
      have s2 := cell_regrown y2
      have s3 := cell_regrown y3
      clear x0 x1 x2 x3 x4 x5 x6 y0 y1 y2 y3
      refine wp_region_quiet_below (by kernel_rfl) (by kernel_rfl) ?_
      repeat (go_big_quiet_step (first | (with_reducible exact Calls.regrown_of (unhide cA _)) | (with_reducible exact Calls.regrown_of (unhide cS _))))
      refine wpQuiet_nil ?_
      intro _ hw'
      obtain ⟨⟨dq, osq⟩, hw''⟩ := hw'
      subst hw''
      have hx := below_regrown W4 dq osq
      have HB5 := hide (below_call (unhide HB1) hx)
      have HV5 := hide ((unhide HV1).kept (unhide HV1).lt hx)
      generalize grow (redrawn W4 dq) osq = W5 at hx HB5 HV5 ⊢
      clear hx r0 r1 r2 r4 r5 r6 s0 s1 s2 s3 cA cS HB1 HV1
      cases sm
      · have HN := hide (unhide HNK (unhide HBK))
        go_wp2_with fail
        go_ret
        exact ⟨by rw [unhide HN]; rfl, unhide HB5⟩
      · have HOK : Hid (br (sgA A k) = true) := hide (by rw [unhide HSE]; exact unhide HBK)
        go_wp2_with fail
        go_roundw
        case rel => exact ⟨k + 1, by omega, by go_num, hide (fun l hl => by
          by_cases e : l = k
          · rw [e]; exact unhide HOK
          · exact unhide HF l (by omega)), HB5, HV5⟩
        case measure => simp [intOf]; omega
    · have hkn' : k = n := by omega
      subst hkn'
      have HY := hide (unhide HYE (unhide HF))
      go_wp2_with fail
      go_ret
      exact ⟨by rw [unhide HY]; rfl, unhide HB⟩
/-- what TurnFor answers, as a value -/
def outV (r : T4 × Int) : Value := .agg #[.int .i64 r.1.1, .int .i64 r.1.2.1, .int .i64 r.1.2.2.1, .int .i64 r.1.2.2.2, .int .i64 r.2]
theorem below_set5' {w w1 : World} {b : Nat} (h : Below w.heap.size w w1) (hb : w.heap.size ≤ b) (x y z u v : Value) : Below w.heap.size w (((((w1.setCell ⟨b, 0, none⟩ x).setCell ⟨b, 1, none⟩ y).setCell ⟨b, 2, none⟩ z).setCell ⟨b, 3, none⟩ u).setCell ⟨b, 4, none⟩ v) := ((((h.setCell hb _).setCell hb _).setCell hb _).setCell hb _).setCell hb _
set_option maxHeartbeats 4000000 in
set_option maxRecDepth 100000 in
theorem implTurnFor_any (L : List St) (S : List D3) (ids : List Int) (ar br ir : Option Addr) (cr dr er : Nat) (p : Addr) (w : World) (hn : L.length ≤ 1048576) (hcap : L.length ≤ cr) (hc9 : cr ≤ 9223372036854775807) (hn2 : S.length ≤ 1048576) (hcap2 : S.length ≤ dr) (hd9 : dr ≤ 9223372036854775807) (hn3 : ids.length ≤ 1048576) (hS : Stars w ar L L.length) (hD : Dirs w br S S.length) (hI : Nums w ir ids ids.length) (hE : ErrSky p w) :
    Calls Tryz.prog 80 #[.slice ar L.length cr, .slice br S.length dr, .slice ir ids.length er] w fun e w' => e = .returned (outV (forV L S ids)) ∧ Below w.heap.size w w' := by
  have cN := hide (fun (W : World) h1 h2 h3 h4 => implNamed_any L S ids ar br ir cr dr er p W hn hcap hc9 hn2 hcap2 hd9 hn3 h1 h2 h3 h4)
  have cO : Hid (namedB L S ids = true → ∀ W : World, Stars W ar L L.length → Dirs W br S S.length → Nums W ir ids ids.length → ErrSky p W → Calls Tryz.prog 97 #[.slice ar L.length cr, .slice br S.length dr, .slice ir ids.length er] W fun e w' => (∃ v, e = .returned v ∧ w'.ownsRow W.heap.size 161 7 v (sightsTo L S ids ids.length).length (flatSg (sightsTo L S ids ids.length))) ∧ Below W.heap.size W w') := hide (fun h W h1 h2 h3 h4 => by
    obtain ⟨g1, g2, g3, _⟩ := named_parts h
    exact sightsOf_any L S ids ids.length ar br ir cr dr er p W g1 hn hcap hc9 (spots_ok g2).1 g3 h1 h2 h3 h4)
  have HSM : Hid (namedB L S ids = true → ∀ i, i < (sightsTo L S ids ids.length).length → smallB (sgA (sightsTo L S ids ids.length) i).2.2.1 (sgA (sightsTo L S ids ids.length) i).2.2.2.1 (sgA (sightsTo L S ids ids.length) i).2.2.2.2 = true) := hide (fun h i hi => sight_small h hi)
  have HAL : Hid (namedB L S ids = true → (sightsTo L S ids ids.length).length ≤ 6) := hide (fun h => by
    obtain ⟨g1, g2, g3, _⟩ := named_parts h
    have := sights_len L S ids ids.length
    have := (spots_ok g2).1
    omega)
  have H1 : Hid (400 < L.length ∨ 400 < S.length ∨ 400 < ids.length → forV L S ids = ((0, 0, 0, 0), 2)) := hide for_size
  have H2 : Hid (¬ (400 < L.length ∨ 400 < S.length ∨ 400 < ids.length) → namedB L S ids = false → forV L S ids = ((0, 0, 0, 0), 1)) := hide for_form
  have H3 : Hid (¬ (400 < L.length ∨ 400 < S.length ∨ 400 < ids.length) → namedB L S ids = true → (sightsTo L S ids ids.length).length < 2 → forV L S ids = ((0, 0, 0, 0), 10)) := hide for_few
  have H4 : Hid (¬ (400 < L.length ∨ 400 < S.length ∨ 400 < ids.length) → namedB L S ids = true → ¬ (sightsTo L S ids ids.length).length < 2 → forV L S ids = firstT (sightsTo L S ids ids.length) (turnsTo 625)) := hide for_first
  have HS := hide hS
  have HD := hide hD
  have HI := hide hI
  have HE := hide hE
  clear hS hD hI hE hcap hc9 hcap2 hd9
  generalize forV L S ids = R at *
  generalize namedB L S ids = nb at *
  generalize sightsTo L S ids ids.length = A at *
  generalize S.length = m at *
  generalize ids.length = k at *
  generalize L.length = n at *
  have R0 := blk_new w [.int .i64 0, .int .i64 0, .int .i64 0, .int .i64 0, .int .i64 0] 82
  have B0 := below1 w (.cells #[.int .i64 0, .int .i64 0, .int .i64 0, .int .i64 0, .int .i64 0] 82)
  by_cases hbig : 400 < n ∨ 400 < m ∨ 400 < k
  · obtain rfl := unhide H1 hbig
    have h' : 400 < n ∨ (¬ 400 < n ∧ 400 < m) ∨ (¬ 400 < n ∧ ¬ 400 < m ∧ 400 < k) := by omega
    rcases h' with h | ⟨h, h1⟩ | ⟨h, h1, h2⟩
    · have g1 : decide ((400 : Int) < (n : Int)) = true := by simp; omega
      have g2 : (400 : Int) < (n : Int) := by omega
      go_enter Tryz.func80, Tryz.ntmps80
      go_wp2_with fail
      exact bodyPost_ret (v := .agg #[.int .i64 0, .int .i64 0, .int .i64 0, .int .i64 0, .int .i64 2]) (by simp [results, Tryz.results80, go_sem]) rfl ⟨rfl, below1 _ _⟩
    · have g1 : decide ((400 : Int) < (n : Int)) = false := by simp; omega
      have g2 : ¬ (400 : Int) < (n : Int) := by omega
      have g3 : decide ((400 : Int) < (m : Int)) = true := by simp; omega
      have g4 : (400 : Int) < (m : Int) := by omega
      go_enter Tryz.func80, Tryz.ntmps80
      go_wp2_with fail
      exact bodyPost_ret (v := .agg #[.int .i64 0, .int .i64 0, .int .i64 0, .int .i64 0, .int .i64 2]) (by simp [results, Tryz.results80, go_sem]) rfl ⟨rfl, below1 _ _⟩
    · have g1 : decide ((400 : Int) < (n : Int)) = false := by simp; omega
      have g2 : ¬ (400 : Int) < (n : Int) := by omega
      have g3 : decide ((400 : Int) < (m : Int)) = false := by simp; omega
      have g4 : ¬ (400 : Int) < (m : Int) := by omega
      have g5 : decide ((400 : Int) < (k : Int)) = true := by simp; omega
      have g6 : (400 : Int) < (k : Int) := by omega
      go_enter Tryz.func80, Tryz.ntmps80
      go_wp2_with fail
      exact bodyPost_ret (v := .agg #[.int .i64 0, .int .i64 0, .int .i64 0, .int .i64 0, .int .i64 2]) (by simp [results, Tryz.results80, go_sem]) rfl ⟨rfl, below1 _ _⟩
  have g1 : decide ((400 : Int) < (n : Int)) = false := by simp; omega
  have g2 : ¬ (400 : Int) < (n : Int) := by omega
  have g3 : decide ((400 : Int) < (m : Int)) = false := by simp; omega
  have g4 : ¬ (400 : Int) < (m : Int) := by omega
  have g5 : decide ((400 : Int) < (k : Int)) = false := by simp; omega
  have g6 : ¬ (400 : Int) < (k : Int) := by omega
  go_enter Tryz.func80, Tryz.ntmps80
  go_wp2_with fail
  generalize w.alloc (.cells #[.int .i64 0, .int .i64 0, .int .i64 0, .int .i64 0, .int .i64 0] 82) = W0 at R0 B0 ⊢
  refine (unhide cN _ ((unhide HS).kept B0) ((unhide HD).kept B0) ((unhide HI).kept B0) ((unhide HE).kept B0)).mono ?_
  rintro e W1 ⟨rfl, hx⟩
  have R1 := R0.kept hx
  have B1 := below_call B0 hx
  clear hx R0 B0
  cases nb
  · obtain rfl := unhide H2 hbig rfl
    have r0 := R1.cell 0 _ rfl
    have r1 := R1.cell 1 _ rfl
    have r2 := R1.cell 2 _ rfl
    have r3 := R1.cell 3 _ rfl
    have r4 := R1.cell 4 _ rfl
    have f0 := R1.free 0
    have f1 := R1.free 1
    have f2 := R1.free 2
    have f3 := R1.free 3
    have f4 := R1.free 4
    go_wp2_with fail
    exact bodyPost_ret (v := .agg #[.int .i64 0, .int .i64 0, .int .i64 0, .int .i64 0, .int .i64 1]) (by simp [results, Tryz.results80, go_sem, r0, r1, r2, r3, r4]) rfl ⟨rfl, below_set5' B1 (Nat.le_refl _) _ _ _ _ _⟩
  have cO' := hide (unhide cO rfl)
  have HSM' := hide (unhide HSM rfl)
  have hal6 := unhide HAL rfl
  have H3' := hide (unhide H3 hbig rfl)
  have H4' := hide (unhide H4 hbig rfl)
  clear cO HSM HAL H1 H2 H3 H4 cN hbig g1 g2 g3 g4 g5 g6
  go_wp2_with fail
  refine (unhide cO' _ ((unhide HS).kept B1) ((unhide HD).kept B1) ((unhide HI).kept B1) ((unhide HE).kept B1)).mono ?_
  rintro e W2 ⟨⟨v2, rfl, ho⟩, hx⟩
  obtain ⟨a2, c2, rfl⟩ := oSlice ho
  have HSG := hide (sights_own ho)
  have R2 := R1.kept hx
  have B2 := below_call B1 hx
  clear ho hx R1 B1 cO'
  by_cases h2 : A.length < 2
  · obtain rfl := unhide H3' h2
    have h2' : (A.length : Int) < 2 := by omega
    have r0 := R2.cell 0 _ rfl
    have r1 := R2.cell 1 _ rfl
    have r2 := R2.cell 2 _ rfl
    have r3 := R2.cell 3 _ rfl
    have r4 := R2.cell 4 _ rfl
    have f0 := R2.free 0
    have f1 := R2.free 1
    have f2 := R2.free 2
    have f3 := R2.free 3
    have f4 := R2.free 4
    go_wp2_with fail
    exact bodyPost_ret (v := .agg #[.int .i64 0, .int .i64 0, .int .i64 0, .int .i64 0, .int .i64 10]) (by simp [results, Tryz.results80, go_sem, r0, r1, r2, r3, r4]) rfl ⟨rfl, below_set5' B2 (Nat.le_refl _) _ _ _ _ _⟩
  have h2' : ¬ (A.length : Int) < 2 := by omega
  have HR := hide (unhide H4' h2)
  have cT : Hid (∀ W : World, Calls Tryz.prog 98 #[] W fun e w' => ∃ g c, e = .returned (.slice (some ⟨g, 0, none⟩) (turnsTo 625).length c) ∧ Turn4s w' g (turnsTo 625) ∧ Below W.heap.size W w') := hide (fun W => (implTurns_any W).mono fun e w' h => by
    obtain ⟨⟨v, he, ho⟩, hb⟩ := h
    obtain ⟨g, c, rfl, hg, ht⟩ := turn4s_of ho turns_some
    exact ⟨g, c, he, ht, hb⟩)
  have HTR : Hid (∀ k, k < (turnsTo 625).length → rightT (tA (turnsTo 625) k).1 (tA (turnsTo 625) k).2.1 (tA (turnsTo 625) k).2.2.1 (tA (turnsTo 625) k).2.2.2 = true) := hide (fun k hk => turns_right hk)
  have hTL := turns_len 625
  have cE : Hid (∀ (t : T4) (a : Option Addr) (W : World), rightT t.1 t.2.1 t.2.2.1 t.2.2.2 = true → Sights W a A A.length → Calls Tryz.prog 99 #[.agg #[.int .i64 t.1, .int .i64 t.2.1, .int .i64 t.2.2.1, .int .i64 t.2.2.2], .slice a A.length c2] W fun e w' => e = .returned (.bool (explB A t)) ∧ Below W.heap.size W w') := hide (fun t a W ht hs => explains_any A A.length t a c2 W rfl (by omega) ht (unhide HSM') hs)
  clear HSM' H3' H4' h2
  have HF1 : Hid (∀ k, k < (turnsTo 625).length → (∀ j, j < k → explB A (tA (turnsTo 625) j) = false) → explB A (tA (turnsTo 625) k) = true → firstT A (turnsTo 625) = (tA (turnsTo 625) k, 0)) := hide (fun k hk h h1 => first_at hk h h1)
  have HF2 : Hid ((∀ j, j < (turnsTo 625).length → explB A (tA (turnsTo 625) j) = false) → firstT A (turnsTo 625) = ((0, 0, 0, 0), 6)) := hide first_none
  generalize turnsTo 625 = T at *
  generalize hlt : T.length = tn at *
  have HTL := hide hlt
  clear hlt
  generalize A.length = al at *
  go_wp2_with fail
  refine (unhide cT _).mono ?_
  rintro e W3 ⟨g, c3, rfl, ht, hx⟩
  have HT3 := hide ht
  have HS3 := hide ((unhide HSG).kept hx)
  have HR3 := hide (R2.kept hx)
  have HB3 := hide (below_call B2 hx)
  clear ht hx R2 B2 HSG cT
  go_wp2_with fail
  go_loopw [40] (fun i wr => ∃ j : Nat, j ≤ tn ∧ i = .int .i64 j ∧ Hid (∀ l, l < j → explB A (tA T l) = false) ∧ Hid (Turn4s wr g T) ∧ Hid (Sights wr a2 A al) ∧ Hid (Blk wr w.heap.size [.int .i64 0, .int .i64 0, .int .i64 0, .int .i64 0, .int .i64 0] 82) ∧ Hid (Below w.heap.size w wr)) (fun i _ => tn - (intOf i).toNat)
  case atStart => exact ⟨0, by omega, rfl, hide (fun j hj => absurd hj (Nat.not_lt_zero _)), HT3, HS3, HR3, HB3⟩
  case round =>
    clear HT3 HS3 HR3 HB3
    obtain ⟨j, hj, rfl, HF, HT, HS', HRB, HB⟩ := hrel
    by_cases hjn : j < tn
    · have hjn2 : (j : Int) < (tn : Int) := by omega
      obtain ⟨c0, c1, c2', c3'⟩ := (unhide HT).2 j (by rw [unhide HTL]; exact hjn)
      have htr := unhide HTR j hjn
      have HF1j := hide (unhide HF1 j hjn (unhide HF))
      obtain ⟨t, ht⟩ : ∃ t, tA T j = t := ⟨_, rfl⟩
      rw [ht] at c0 c1 c2' c3' htr HF1j
      have HTE := hide ht
      clear ht
      have cEt := hide (fun W h => unhide cE t a2 W htr h)
      clear htr
      have HEX : Hid (explB A (tA T j) = explB A t) := hide (by rw [unhide HTE])
      generalize explB A t = ev at *
      obtain ⟨t1, t2, t3, t4⟩ := t
      simp only at c0 c1 c2' c3' cEt
      have Z := below1 wr (.cells #[.int .i64 t1, .int .i64 t2, .int .i64 t3, .int .i64 t4] 31)
      have TA1 := hide (turnAt_new wr t1 t2 t3 t4 31)
      have HT1 := hide ((unhide HT).kept Z)
      have HS1 := hide ((unhide HS').kept Z)
      have HR1 := hide ((unhide HRB).kept Z)
      have HB1 := hide (below_call (unhide HB) Z)
      clear Z HT HS' HRB HB
      go_wp2_with fail
      clear c0 c1 c2' c3'
      generalize wr.alloc (.cells #[.int .i64 t1, .int .i64 t2, .int .i64 t3, .int .i64 t4] 31) = W4 at TA1 HT1 HS1 HR1 HB1 ⊢
      generalize wr.heap.size = tb at *
      refine (unhide cEt _ (unhide HS1)).mono ?_
      rintro e W5 ⟨rfl, hx⟩
      have TA2 := hide ((unhide TA1).kept (unhide TA1).lt hx)
      have HT2 := hide ((unhide HT1).kept hx)
      have HS2 := hide ((unhide HS1).kept hx)
      have HR2 := hide ((unhide HR1).kept hx)
      have HB2 := hide (below_call (unhide HB1) hx)
      clear hx TA1 HT1 HS1 HR1 HB1 cEt
      cases ev
      · go_wp2_with fail
        go_roundw
        case rel => exact ⟨j + 1, by omega, by go_num, hide (fun l hl => by
          by_cases e : l = j
          · rw [e]; exact unhide HEX
          · exact unhide HF l (by omega)), HT2, HS2, HR2, HB2⟩
        case measure => simp [intOf]; omega
      · have HRV : Hid (R = ((t1, t2, t3, t4), 0)) := hide (by rw [unhide HR]; exact unhide HF1j rfl)
        obtain ⟨x0, x1, x2, x3⟩ := unhide TA2
        have r0 := (unhide HR2).cell 0 _ rfl
        have r1 := (unhide HR2).cell 1 _ rfl
        have r2 := (unhide HR2).cell 2 _ rfl
        have r3 := (unhide HR2).cell 3 _ rfl
        have r4 := (unhide HR2).cell 4 _ rfl
        have f0 := (unhide HR2).free 0
        have f1 := (unhide HR2).free 1
        have f2 := (unhide HR2).free 2
        have f3 := (unhide HR2).free 3
        have f4 := (unhide HR2).free 4
        go_wp2_with fail
        exact bodyPost_ret (v := .agg #[.int .i64 t1, .int .i64 t2, .int .i64 t3, .int .i64 t4, .int .i64 0]) (by simp [results, Tryz.results80, go_sem, r0, r1, r2, r3, r4]) rfl ⟨by rw [unhide HRV]; rfl, below_set5' (unhide HB2) (Nat.le_refl _) _ _ _ _ _⟩
    · have hjn' : j = tn := by omega
      subst hjn'
      have HRV : Hid (R = ((0, 0, 0, 0), 6)) := hide (by rw [unhide HR]; exact unhide HF2 (unhide HF))
      have r0 := (unhide HRB).cell 0 _ rfl
      have r1 := (unhide HRB).cell 1 _ rfl
      have r2 := (unhide HRB).cell 2 _ rfl
      have r3 := (unhide HRB).cell 3 _ rfl
      have r4 := (unhide HRB).cell 4 _ rfl
      have f0 := (unhide HRB).free 0
      have f1 := (unhide HRB).free 1
      have f2 := (unhide HRB).free 2
      have f3 := (unhide HRB).free 3
      have f4 := (unhide HRB).free 4
      go_wp2_with fail
      exact bodyPost_ret (v := .agg #[.int .i64 0, .int .i64 0, .int .i64 0, .int .i64 0, .int .i64 6]) (by simp [results, Tryz.results80, go_sem, r0, r1, r2, r3, r4]) rfl ⟨by rw [unhide HRV]; rfl, below_set5' (unhide HB) (Nat.le_refl _) _ _ _ _ _⟩
end Go.Proofs.YtjdehbpgdplolaaGreatDoor

namespace Go.Proofs.YtjdehbpgdplolaaGreatDoor
open Go.RowKit Go.Sort
set_option linter.unusedVariables false

set_option maxHeartbeats 4000000 in
set_option maxRecDepth 100000 in
theorem specTurns_any (w : World) :
    Calls Tryz.prog 68 #[] w fun e w' => (∃ v, e = .returned v ∧ w'.ownsRow w.heap.size 31 4 v (turnsTo 625).length (flatT (turnsTo 625))) ∧ Below w.heap.size w w' := by
  obtain ⟨i0, hinf, hz0, hz1, hz2⟩ := info_parts info_turn
  have hm8 : 1000 ≤ maxLen := by decide +kernel
  have HO0 := hide (ownT_none w w.heap.size (Nat.le_refl _))
  have HB0 := hide (below1 w (.cells #[] 31))
  go_enter Tryz.func68, Tryz.ntmps68
  go_wp2_with fail
  generalize w.alloc (.cells #[] 31) = W0 at HO0 HB0 ⊢
  go_loopw [1, 2] (fun v kk wr => ∃ i : Nat, i ≤ 5 ∧ kk = .int .i64 ((i : Int) - 2) ∧ Hid (wr.ownsRow w.heap.size 31 4 v (turnsTo (i * 125)).length (flatT (turnsTo (i * 125)))) ∧ Hid (Below w.heap.size w wr)) (fun _ kk _ => (3 - intOf kk).toNat)
  case atStart => exact ⟨0, by omega, rfl, HO0, HB0⟩
  case round =>
    clear HO0 HB0
    obtain ⟨i, hi, rfl, HO1, HB1⟩ := hrel
    by_cases hi5 : i < 5
    · have hi2 : (i : Int) - 2 ≤ 2 := by omega
      go_wp2_with fail
      go_loopw [1, 3] (fun v kk wr => ∃ j : Nat, j ≤ 5 ∧ kk = .int .i64 ((j : Int) - 2) ∧ Hid (wr.ownsRow w.heap.size 31 4 v (turnsTo (i * 125 + j * 25)).length (flatT (turnsTo (i * 125 + j * 25)))) ∧ Hid (Below w.heap.size w wr)) (fun _ kk _ => (3 - intOf kk).toNat)
      case atStart => exact ⟨0, by omega, rfl, hide (by have h := unhide HO1; simpa using h), HB1⟩
      case round =>
        clear HO1 HB1
        obtain ⟨j, hj, rfl, HO2, HB2⟩ := hrel
        by_cases hj5 : j < 5
        · have hj2 : (j : Int) - 2 ≤ 2 := by omega
          go_wp2_with fail
          go_loopw [1, 4] (fun v kk wr => ∃ l : Nat, l ≤ 5 ∧ kk = .int .i64 ((l : Int) - 2) ∧ Hid (wr.ownsRow w.heap.size 31 4 v (turnsTo (i * 125 + j * 25 + l * 5)).length (flatT (turnsTo (i * 125 + j * 25 + l * 5)))) ∧ Hid (Below w.heap.size w wr)) (fun _ kk _ => (3 - intOf kk).toNat)
          case atStart => exact ⟨0, by omega, rfl, hide (by have h := unhide HO2; simpa using h), HB2⟩
          case round =>
            clear HO2 HB2
            obtain ⟨l, hl, rfl, HO3, HB3⟩ := hrel
            by_cases hl5 : l < 5
            · have hl2 : (l : Int) - 2 ≤ 2 := by omega
              go_wp2_with fail
              go_loopw [1, 5] (fun v kk wr => ∃ m : Nat, m ≤ 5 ∧ kk = .int .i64 ((m : Int) - 2) ∧ Hid (wr.ownsRow w.heap.size 31 4 v (turnsTo (i * 125 + j * 25 + l * 5 + m)).length (flatT (turnsTo (i * 125 + j * 25 + l * 5 + m)))) ∧ Hid (Below w.heap.size w wr)) (fun _ kk _ => (3 - intOf kk).toNat)
              case atStart => exact ⟨0, by omega, rfl, hide (by have h := unhide HO3; simpa using h), HB3⟩
              case round =>
                clear HO3 HB3
                obtain ⟨m, hm, rfl, HO4, HB4⟩ := hrel
                by_cases hm5 : m < 5
                · have hm2 : (m : Int) - 2 ≤ 2 := by omega
                  have hta := tOf_at i j l m hj5 hl5 hm5
                  have hpl := turns_len (i * 125 + j * 25 + l * 5 + m)
                  have HSN := hide (turns_snoc (i * 125 + j * 25 + l * 5 + m))
                  rw [hta] at HSN
                  clear hta
                  generalize hke : i * 125 + j * 25 + l * 5 + m = k at *
                  have hkb : k < 625 := by omega
                  have HKE : Hid (i * 125 + j * 25 + l * 5 + (m + 1) = k + 1) := hide (by omega)
                  clear hke
                  have Z := below1 wr (.cells #[.int .i64 ((i : Int) - 2), .int .i64 ((j : Int) - 2), .int .i64 ((l : Int) - 2), .int .i64 ((m : Int) - 2)] 31)
                  have HBa := hide (below_call (unhide HB4) Z)
                  have HOa := hide (oKept (unhide HO4) Z)
                  have TA1 := turnAt_new wr ((i : Int) - 2) ((j : Int) - 2) ((l : Int) - 2) ((m : Int) - 2) 31
                  clear Z HO4 HB4
                  go_wp2_with fail
                  obtain ⟨p, hp⟩ : ∃ p, p = (i : Int) - 2 := ⟨_, rfl⟩
                  obtain ⟨q, hq⟩ : ∃ p, p = (j : Int) - 2 := ⟨_, rfl⟩
                  obtain ⟨r, hr⟩ : ∃ p, p = (l : Int) - 2 := ⟨_, rfl⟩
                  obtain ⟨s, hs⟩ : ∃ p, p = (m : Int) - 2 := ⟨_, rfl⟩
                  generalize wr.alloc (.cells #[.int .i64 ((i : Int) - 2), .int .i64 ((j : Int) - 2), .int .i64 ((l : Int) - 2), .int .i64 ((m : Int) - 2)] 31) = W1 at HBa HOa TA1 ⊢
                  refine (specTRight_any _ _ _ _ _).mono ?_
                  rintro e W2 ⟨rfl, hx⟩
                  have TA2 := TA1.kept TA1.lt hx
                  have HBb := hide (below_call (unhide HBa) hx)
                  have HOb := hide (oKept (unhide HOa) hx)
                  clear hx TA1 HBa HOa
                  rw [← hp, ← hq, ← hr, ← hs] at HSN
                  rw [← hp, ← hq, ← hr, ← hs] at TA2
                  have HG : Hid (goodT (p, q, r, s) = rightT ((i : Int) - 2) ((j : Int) - 2) ((l : Int) - 2) ((m : Int) - 2)) := hide (by rw [← hp, ← hq, ← hr, ← hs]; rfl)
                  generalize wr.heap.size = tb at *
                  cases hrt : rightT ((i : Int) - 2) ((j : Int) - 2) ((l : Int) - 2) ((m : Int) - 2)
                  · rw [hrt] at HG
                    rw [unhide HG, if_neg (by simp), List.append_nil] at HSN
                    have HO3 : Hid (W2.ownsRow w.heap.size 31 4 u1 (turnsTo (i * 125 + j * 25 + l * 5 + (m + 1))).length (flatT (turnsTo (i * 125 + j * 25 + l * 5 + (m + 1))))) := hide (by rw [unhide HKE, unhide HSN]; exact unhide HOb)
                    clear hp hq hr hs
                    go_wp2_with fail
                    go_roundw
                    case rel => exact ⟨m + 1, by omega, by go_num, HO3, HBb⟩
                    case measure => simp [intOf] <;> omega
                  · rw [hrt] at HG
                    rw [unhide HG, if_pos rfl] at HSN
                    obtain ⟨e0, e1, e2, e3⟩ := TA2
                    have Z1 := below1 W2 (.cells #[.int .i64 p, .int .i64 q, .int .i64 r, .int .i64 s] 31)
                    have hown := oKept (unhide HOb) Z1
                    have B3 := below_call (unhide HBb) Z1
                    have hsz := (unhide HBb).size
                    have HP := hide hp
                    have HQ := hide hq
                    have HR := hide hr
                    have HS := hide hs
                    clear Z1 HOb HBb hp hq hr hs
                    generalize turnsTo k = Pk at *
                    go_wp2_with (at_builtin; refine wpList_append_own _ rfl _ _ 106 rfl w.heap.size 31 i0 (.agg #[.int .i64 0, .int .i64 0, .int .i64 0, .int .i64 0]) 4 32 Tryz.underlying106 hinf hz0 hz1 hz2 rfl (by decide) _ _ _ rfl hown ⟨W2.heap.size, 0, none⟩ 1 1 (flatT [(p, q, r, s)]) rfl rfl ?d2 (fun u hu => flatT_cell hu) ?d3 ?d4 ?d5 ?_)
                    case d2 => first | exact fun j u h => h | exact new_cells _ _ _
                    case d3 => omega
                    case d4 => omega
                    case d5 => first | omega | (simp; omega)
                    intro v7 V7 hown7 hgrow7 _
                    have HB8 := hide (oBelow B3 hown hgrow7 (by simp; omega))
                    have HO8 : Hid (V7.ownsRow w.heap.size 31 4 v7 (turnsTo (i * 125 + j * 25 + l * 5 + (m + 1))).length (flatT (turnsTo (i * 125 + j * 25 + l * 5 + (m + 1))))) := hide (by rw [unhide HKE, unhide HSN, flatT_app, List.length_append]; exact hown7)
                    clear hown7 hgrow7 hown B3 e0 e1 e2 e3
                    go_wp2_with fail
                    go_roundw
                    case rel => exact ⟨m + 1, by omega, by go_num, HO8, HB8⟩
                    case measure => simp [intOf] <;> omega
                · have hm2 : ¬ (m : Int) - 2 ≤ 2 := by omega
                  have hm5' : m = 5 := by omega
                  subst hm5'
                  have HOx : Hid (wr.ownsRow w.heap.size 31 4 u1 (turnsTo (i * 125 + j * 25 + (l + 1) * 5)).length (flatT (turnsTo (i * 125 + j * 25 + (l + 1) * 5)))) := hide (by rw [show i * 125 + j * 25 + (l + 1) * 5 = i * 125 + j * 25 + l * 5 + 5 by omega]; exact unhide HO4)
                  go_wp2_with fail
                  go_roundw
                  case rel => exact ⟨l + 1, by omega, by go_num, HOx, HB4⟩
                  case measure => simp [intOf] <;> omega
            · have hl2 : ¬ (l : Int) - 2 ≤ 2 := by omega
              have hl5' : l = 5 := by omega
              subst hl5'
              have HOx : Hid (wr.ownsRow w.heap.size 31 4 u1 (turnsTo (i * 125 + (j + 1) * 25)).length (flatT (turnsTo (i * 125 + (j + 1) * 25)))) := hide (by rw [show i * 125 + (j + 1) * 25 = i * 125 + j * 25 + 5 * 5 by omega]; exact unhide HO3)
              go_wp2_with fail
              go_roundw
              case rel => exact ⟨j + 1, by omega, by go_num, HOx, HB3⟩
              case measure => simp [intOf] <;> omega
        · have hj2 : ¬ (j : Int) - 2 ≤ 2 := by omega
          have hj5' : j = 5 := by omega
          subst hj5'
          have HOx : Hid (wr.ownsRow w.heap.size 31 4 u1 (turnsTo ((i + 1) * 125)).length (flatT (turnsTo ((i + 1) * 125)))) := hide (by rw [show (i + 1) * 125 = i * 125 + 5 * 25 by omega]; exact unhide HO2)
          go_wp2_with fail
          go_roundw
          case rel => exact ⟨i + 1, by omega, by go_num, HOx, HB2⟩
          case measure => simp [intOf] <;> omega
    · have hi2 : ¬ (i : Int) - 2 ≤ 2 := by omega
      have hi5' : i = 5 := by omega
      subst hi5'
      go_wp2_with fail
      go_ret
      exact ⟨⟨_, rfl, unhide HO1⟩, unhide HB1⟩
end Go.Proofs.YtjdehbpgdplolaaGreatDoor
