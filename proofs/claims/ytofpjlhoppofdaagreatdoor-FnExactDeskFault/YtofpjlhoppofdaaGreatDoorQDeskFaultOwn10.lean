/- Several texts in one: TfB, TfC, LkB, LkC, ModN, LkD, LkE. -/
import Derived.Test.YtofpjlhoppofdaaGreatDoorQDeskFaultOwn9
import Derived.Test.YtofpjlhoppofdaaGreatDoorQDeskFaultOwn7
namespace Go.Proofs.YtofpjlhoppofdaaGreatDoor
open Go.RowKit Go.Sort
set_option linter.unusedVariables false
def turnedTo (L : List St) (S : List D3) (ids : List Int) (t : T4) (n : Nat) : Prop := ∀ j, j < n → (decide (ids.getD j 0 = 0) || bringsB t (sgOf L S ids j)) = true
theorem turnedTo_step {L : List St} {S : List D3} {ids : List Int} {t : T4} {n : Nat} (h : turnedTo L S ids t n) (h1 : (decide (ids.getD n 0 = 0) || bringsB t (sgOf L S ids n)) = true) : turnedTo L S ids t (n + 1) := fun l hl => by
  by_cases e : l = n
  · rw [e]; exact h1
  · exact h l (by omega)
set_option maxHeartbeats 4000000 in
set_option maxRecDepth 100000 in
theorem l06Turned_any (L : List St) (S : List D3) (ids : List Int) (t : T4) (k : Nat) (ar br ir : Option Addr) (cr dr er : Nat) (w : World) (hk6 : k ≤ 6) (hn : L.length ≤ 12) (ht : rightT t.1 t.2.1 t.2.2.1 t.2.2.2 = true) (hS : Stars w ar L L.length) (hD : Dirs w br S k) (hI : Nums w ir ids k)
    (hids : ∀ i, i < k → ids.getD i 0 ≠ 0 → smallB (atV L L.length (ids.getD i 0)).1 (atV L L.length (ids.getD i 0)).2.1 (atV L L.length (ids.getD i 0)).2.2 = true ∧ wideD (vA S i) = true) :
    Calls Tryz.prog 173 #[.slice ar L.length cr, .slice br k dr, .slice ir k er, .agg #[.int .i64 t.1, .int .i64 t.2.1, .int .i64 t.2.2.1, .int .i64 t.2.2.2]] w fun e w' => e = .returned (.bool (turnedI L S ids t k)) ∧ Below w.heap.size w w' := by
  have cA := yz (fun (W : World) (q : Int) hW => l04At_any L L.length q ar cr W (by omega) hW)
  have HNO : Hid (∀ i, i < k → (decide (ids.getD i 0 = 0) || bringsB t (sgOf L S ids i)) = false → turnedI L S ids t k = false) := yz (fun i hi h => turnedI_no hi h)
  have HYE : Hid (turnedTo L S ids t k → turnedI L S ids t k = true) := yz (fun h => turnedI_yes h)
  have HST : Hid (∀ n, turnedTo L S ids t n → (decide (ids.getD n 0 = 0) || bringsB t (sgOf L S ids n)) = true → turnedTo L S ids t (n + 1)) := yz (fun n h h1 => turnedTo_step h h1)
  have H0 : Hid (turnedTo L S ids t 0) := yz (fun j hj => absurd hj (Nat.not_lt_zero _))
  have HBR : Hid (∀ i, bringsB t (sgOf L S ids i) = sameD (vA S i) (apD t.1 t.2.1 t.2.2.1 t.2.2.2 (atV L L.length (ids.getD i 0)))) := yz (fun i => rfl)
  have HDS := yz hids
  have HT := yz ht
  have HS := yz hS
  have HD := yz hD
  clear hS hD hids ht
  generalize turnedI L S ids t k = R at *
  generalize turnedTo L S ids t = TT at *
  generalize bringsB t = br' at *
  obtain ⟨t1, t2, t3, t4⟩ := t
  simp only at HT HBR ⊢
  generalize L.length = n at *
  have V0 := yz (turnAt_new w t1 t2 t3 t4 46)
  have B0 := yz (below1 w (.cells #[.int .i64 t1, .int .i64 t2, .int .i64 t3, .int .i64 t4] 46))
  rcases hI with rfl | ⟨ib, io, rfl, hib, hic⟩
  · have HY := yz (yy HYE (yy H0))
    go_enter Tryz.func173, Tryz.ntmps173
    go_wp2_with fail
    refine wp_loop_rounds 1 ?_
    rw [rounds_succ]
    go_wp2_with fail
    go_ret
    exact ⟨by rw [yy HY]; rfl, yy B0⟩
  have HIC := yz hic
  clear hic
  go_enter Tryz.func173, Tryz.ntmps173
  go_wp2_with fail
  go_loopw [9] (fun kk wr => ∃ i : Nat, i ≤ k ∧ kk = .int .i64 i ∧ Hid (TT i) ∧ Hid (TurnAt wr w.heap.size t1 t2 t3 t4) ∧ Hid (Below w.heap.size w wr)) (fun kk _ => k - (intOf kk).toNat)
  case atStart => exact ⟨0, by omega, rfl, H0, V0, B0⟩
  case round =>
    clear V0 B0
    obtain ⟨i, hi, rfl, HF, HV, HB⟩ := hrel
    by_cases hik : i < k
    · have hik2 : (i : Int) < (k : Int) := by omega
      have ci : wr.cell? ⟨ib, io + i, none⟩ = some (.int .i64 (ids.getD i 0)) := by rw [(yy HB).cell (p := ⟨ib, io + i, none⟩) hib]; exact yy HIC i hik
      have HSTi := yz (yy HST i (yy HF))
      have HNOi := yz (yy HNO i hik)
      have hds := yy HDS i hik
      rw [yy HBR i] at HSTi HNOi
      generalize ids.getD i 0 = x at *
      by_cases hx0 : x = 0
      · subst hx0
        have HF2 := yz (yy HSTi rfl)
        have ri := cell_regrown ci
        clear ci
        have hnz : ((0 : Int) == 0) = true := rfl
        have hnz2 : decide ((0 : Int) ≠ 0) = false := by decide
        go_wp2_with fail
        refine wp_region_quiet_below (by kernel_rfl) (by kernel_rfl) ?_
        repeat (go_big_quiet_step (fail))
        refine wpQuiet_nil ?_
        intro _ hw'
        obtain ⟨⟨dq, osq⟩, hw''⟩ := hw'
        subst hw''
        have hx := below_regrown wr dq osq
        have HB5 := yz (below_call (yy HB) hx)
        have HV5 := yz ((yy HV).kept (yy HV).lt hx)
        generalize grow (redrawn wr dq) osq = W5 at hx HB5 HV5 ⊢
        clear hx ri HB HV
        go_wp2_with fail
        go_roundw
        case rel => exact ⟨i + 1, by omega, by go_num, HF2, HV5, HB5⟩
        case measure => simp [intOf] <;> omega
      have hx0' : (x == 0) = false := by simp [hx0]
      have hx1' : (x != 0) = true := by simp [hx0]
      obtain ⟨hsm, hwd⟩ := hds hx0
      rw [decide_eq_false hx0, Bool.false_or] at HSTi HNOi
      have cAx := yz (fun (W : World) hW => yy cA W x hW)
      rcases yy HD with h | ⟨bb, bo, rfl, hbb, hbc⟩
      · omega
      have hsp := (hbc i hik).kept hbb (yy HB)
      clear hbc
      generalize vA S i = sv at *
      generalize atV L n x = q at *
      have cP := yz (fun W => l03Apply_small t1 t2 t3 t4 q W (yy HT) hsm)
      have cQ := yz (fun W => l02Same_within (apD t1 t2 t3 t4 q) sv W (apD_within (yy HT) hsm) (wide_million hwd))
      clear hds hsm hwd
      generalize sameD sv (apD t1 t2 t3 t4 q) = sm at *
      generalize apD t1 t2 t3 t4 q = r at *
      obtain ⟨q1, q2, q3⟩ := q
      obtain ⟨r1, r2, r3⟩ := r
      obtain ⟨v1, v2, v3⟩ := sv
      unfold vecV at cAx
      simp only at cAx cP cQ
      obtain ⟨c0, c1, c2⟩ := hsp
      simp only at c0 c1 c2
      obtain ⟨y0, y1, y2, y3⟩ := yy HV
      have ri := cell_regrown ci
      have rc0 := cell_regrown c0
      have rc1 := cell_regrown c1
      have rc2 := cell_regrown c2
      have ry0 := cell_regrown y0
      have ry1 := cell_regrown y1
      have ry2 := cell_regrown y2
      have ry3 := cell_regrown y3
      clear ci c0 c1 c2 y0 y1 y2 y3
      have HS1 := yz ((yy HS).kept (yy HB))
      go_wp2_with fail
      refine wp_region_quiet_below (by kernel_rfl) (by kernel_rfl) ?_
      repeat (go_big_quiet_step (first | (with_reducible exact Calls.regrown_of (yy cAx _ ((yy HS1).kept (below_regrown _ _ _)))) | (with_reducible exact Calls.regrown_of (yy cP _)) | (with_reducible exact Calls.regrown_of (yy cQ _))))
      refine wpQuiet_nil ?_
      intro _ hw'
      obtain ⟨⟨dq, osq⟩, hw''⟩ := hw'
      subst hw''
      have hx := below_regrown wr dq osq
      have HB5 := yz (below_call (yy HB) hx)
      have HV5 := yz ((yy HV).kept (yy HV).lt hx)
      generalize grow (redrawn wr dq) osq = W5 at hx HB5 HV5 ⊢
      clear hx ri rc0 rc1 rc2 ry0 ry1 ry2 ry3 cAx cP cQ HB HV HS1
      cases sm
      · have HN := yz (yy HNOi rfl)
        go_wp2_with fail
        go_ret
        exact ⟨by rw [yy HN]; rfl, yy HB5⟩
      · have HF2 := yz (yy HSTi rfl)
        go_wp2_with fail
        go_roundw
        case rel => exact ⟨i + 1, by omega, by go_num, HF2, HV5, HB5⟩
        case measure => simp [intOf] <;> omega
    · have hik' : i = k := by omega
      subst hik'
      have HY := yz (yy HYE (yy HF))
      go_wp2_with fail
      go_ret
      exact ⟨by rw [yy HY]; rfl, yy HB⟩
def cntF (ids : List Int) : Nat → Nat
  | 0 => 0
  | k + 1 => cntF ids k + if ids.getD k 0 ≠ 0 then 1 else 0
theorem cntF_eq (L : List St) (S : List D3) (ids : List Int) : ∀ k, cntF ids k = (sightsTo L S ids k).length
  | 0 => rfl
  | k + 1 => by
    have ih := cntF_eq L S ids k
    show cntF ids k + (if ids.getD k 0 ≠ 0 then 1 else 0) = _
    rw [sights_count, ih]
theorem cntF_le (ids : List Int) : ∀ k, cntF ids k ≤ k
  | 0 => Nat.le_refl _
  | k + 1 => by
    have ih := cntF_le ids k
    show cntF ids k + (if ids.getD k 0 ≠ 0 then 1 else 0) ≤ k + 1
    split <;> omega
set_option maxHeartbeats 4000000 in
set_option maxRecDepth 100000 in
theorem l06For_any (L : List St) (S : List D3) (ids : List Int) (ar br ir : Option Addr) (cr dr er : Nat) (w : World) (hN : namedB L S ids = true) (hS : Stars w ar L L.length) (hD : Dirs w br S S.length) (hI : Nums w ir ids ids.length) :
    Calls Tryz.prog 145 #[.slice ar L.length cr, .slice br S.length dr, .slice ir ids.length er] w fun e w' => e = .returned (outV (if (sightsTo L S ids ids.length).length < 2 then ((0, 0, 0, 0), 10) else firstT (sightsTo L S ids ids.length) (turnsTo 625))) ∧ Below w.heap.size w w' := by
  obtain ⟨g1, g2, g3, _⟩ := named_parts hN
  have hm6 := (spots_ok g2).1
  have hn12 := (sky_ok g1).1
  have cU : Hid (∀ (t : T4) (W : World), rightT t.1 t.2.1 t.2.2.1 t.2.2.2 = true → Stars W ar L L.length → Dirs W br S ids.length → Nums W ir ids ids.length → Calls Tryz.prog 173 #[.slice ar L.length cr, .slice br ids.length dr, .slice ir ids.length er, .agg #[.int .i64 t.1, .int .i64 t.2.1, .int .i64 t.2.2.1, .int .i64 t.2.2.2]] W fun e w' => e = .returned (.bool (explB (sightsTo L S ids ids.length) t)) ∧ Below W.heap.size W w') := yz (fun t W ht h1 h2 h3 => by
    rw [← turned_eq]
    exact l06Turned_any L S ids t ids.length ar br ir cr dr er W (by omega) hn12 ht h1 h2 h3 (fun i hi h0 => named_each hN hi h0))
  have HCE := yz (cntF_eq L S ids ids.length)
  have cT : Hid (∀ W : World, Calls Tryz.prog 172 #[] W fun e w' => ∃ g c, e = .returned (.slice (some ⟨g, 0, none⟩) (turnsTo 625).length c) ∧ Turn4s w' g (turnsTo 625) ∧ Below W.heap.size W w') := yz (fun W => (specTurns_any W).mono fun e w' h => by
    obtain ⟨⟨v, he, ho⟩, hb⟩ := h
    obtain ⟨g, c, rfl, hg, ht⟩ := turn4s_of ho turns_some
    exact ⟨g, c, he, ht, hb⟩)
  have HTR : Hid (∀ k, k < (turnsTo 625).length → rightT (tA (turnsTo 625) k).1 (tA (turnsTo 625) k).2.1 (tA (turnsTo 625) k).2.2.1 (tA (turnsTo 625) k).2.2.2 = true) := yz (fun k hk => turns_right hk)
  have hTL := turns_len 625
  have HS := yz hS
  have HD := yz hD
  clear hS hD hN g1 g2
  rw [← g3] at HD hm6
  rw [← g3]
  clear g3
  generalize sightsTo L S ids ids.length = A at *
  have HF1 : Hid (∀ k, k < (turnsTo 625).length → (∀ j, j < k → explB A (tA (turnsTo 625) j) = false) → explB A (tA (turnsTo 625) k) = true → firstT A (turnsTo 625) = (tA (turnsTo 625) k, 0)) := yz (fun k hk h h1 => first_at hk h h1)
  have HF2 : Hid ((∀ j, j < (turnsTo 625).length → explB A (tA (turnsTo 625) j) = false) → firstT A (turnsTo 625) = ((0, 0, 0, 0), 6)) := yz first_none
  generalize turnsTo 625 = T at *
  generalize hlt : T.length = tn at *
  have HTL := yz hlt
  clear hlt
  generalize L.length = n at *
  generalize A.length = al at *
  obtain ⟨RV, hRV⟩ : ∃ r, r = (if al < 2 then ((0, 0, 0, 0), 10) else firstT A T) := ⟨_, rfl⟩
  rw [← hRV]
  have HRA : Hid (al < 2 → RV = ((0, 0, 0, 0), 10)) := yz (fun h => by rw [hRV, if_pos h])
  have HRB : Hid (¬ al < 2 → RV = firstT A T) := yz (fun h => by rw [hRV, if_neg h])
  clear hRV
  have HI := yz hI
  clear hI
  generalize ids.length = k at *
  have R0 := yz (blk_new w [.int .i64 0, .int .i64 0, .int .i64 0, .int .i64 0, .int .i64 0] 97)
  have B0 := yz (below1 w (.cells #[.int .i64 0, .int .i64 0, .int .i64 0, .int .i64 0, .int .i64 0] 97))
  go_enter Tryz.func145, Tryz.ntmps145
  go_wp2_with fail
  generalize w.alloc (.cells #[.int .i64 0, .int .i64 0, .int .i64 0, .int .i64 0, .int .i64 0] 97) = W0 at R0 B0 ⊢
  go_loopw [7, 8] (fun c kk wr => ∃ i : Nat, i ≤ k ∧ kk = .int .i64 i ∧ c = .int .i64 (cntF ids i : Int) ∧ wr = W0) (fun _ kk _ => k - (intOf kk).toNat)
  case atStart => exact ⟨0, by omega, rfl, rfl, rfl⟩
  case round =>
    obtain ⟨i, hi, rfl, rfl, rfl⟩ := hrel
    by_cases hik : i < k
    · have hik2 : (i : Int) < (k : Int) := by omega
      rcases yy HI with h | ⟨ib, io, rfl, hib, hic⟩
      · omega
      have ci : wr.cell? ⟨ib, io + i, none⟩ = some (.int .i64 (ids.getD i 0)) := by rw [(yy B0).cell (p := ⟨ib, io + i, none⟩) hib]; exact hic i hik
      clear hic
      have HCN : Hid (cntF ids (i + 1) = cntF ids i + if ids.getD i 0 ≠ 0 then 1 else 0) := yz rfl
      have hcl := cntF_le ids i
      generalize ids.getD i 0 = x at *
      generalize hci : cntF ids i = ct at *
      clear hci
      by_cases hx0 : x = 0
      · subst hx0
        rw [if_neg (by simp)] at HCN
        go_wp2_with fail
        go_roundw
        case rel => exact ⟨i + 1, by omega, by go_num, by rw [yy HCN]; rfl, by first | rfl | trivial⟩
        case measure => simp [intOf] <;> omega
      · have hx0' : (x == 0) = false := by simp [hx0]
        rw [if_pos hx0] at HCN
        go_wp2_with fail
        go_roundw
        case rel => exact ⟨i + 1, by omega, by go_num, by rw [yy HCN]; go_num, by first | rfl | trivial⟩
        case measure => simp [intOf] <;> omega
    · have hik' : i = k := by omega
      subst hik'
      rw [yy HCE]
      clear HCE
      by_cases h2 : al < 2
      · have h2' : (al : Int) < 2 := by omega
        have HRV := yz (yy HRA h2)
        obtain ⟨r0, r1, r2, r3, r4⟩ := bcs5 (yy R0)
        obtain ⟨f0, f1, f2, f3, f4⟩ := bfs5 (yy R0)
        go_wp2_with fail
        exact bodyPost_ret (v := .agg #[.int .i64 0, .int .i64 0, .int .i64 0, .int .i64 0, .int .i64 10]) (by simp [results, Tryz.results145, go_sem, r0, r1, r2, r3, r4]) rfl ⟨by rw [yy HRV]; rfl, below_set5' (yy B0) (Nat.le_refl _) _ _ _ _ _⟩
      have h2' : ¬ (al : Int) < 2 := by omega
      have HR := yz (yy HRB h2)
      clear HRA HRB h2
      go_wp2_with fail
      refine (yy cT _).mono ?_
      rintro e W3 ⟨g, c3, rfl, ht, hx⟩
      have HT3 := yz ht
      have HR3 := yz ((yy R0).kept hx)
      have HB3 := yz (below_call (yy B0) hx)
      clear ht hx R0 B0 cT
      go_wp2_with fail
      go_loopw [10] (fun kk wr => ∃ j : Nat, j ≤ tn ∧ kk = .int .i64 j ∧ Hid (∀ l, l < j → explB A (tA T l) = false) ∧ Hid (Turn4s wr g T) ∧ Hid (Blk wr w.heap.size [.int .i64 0, .int .i64 0, .int .i64 0, .int .i64 0, .int .i64 0] 97) ∧ Hid (Below w.heap.size w wr)) (fun kk _ => tn - (intOf kk).toNat)
      case atStart => exact ⟨0, by omega, rfl, yz (fun j hj => absurd hj (Nat.not_lt_zero _)), HT3, HR3, HB3⟩
      case round =>
        clear HT3 HR3 HB3
        obtain ⟨j, hj, rfl, HF, HT, HRB, HB⟩ := hrel
        by_cases hjn : j < tn
        · have hjn2 : (j : Int) < (tn : Int) := by omega
          obtain ⟨c0, c1, c2', c3'⟩ := (yy HT).2 j (by rw [yy HTL]; exact hjn)
          have htr := yy HTR j hjn
          have HF1j := yz (yy HF1 j hjn (yy HF))
          obtain ⟨t, ht⟩ : ∃ t, tA T j = t := ⟨_, rfl⟩
          rw [ht] at c0 c1 c2' c3' htr HF1j
          have HTE := yz ht
          clear ht
          have cEt := yz (fun W h1 h2 h3 => yy cU t W htr h1 h2 h3)
          clear htr
          have HEX : Hid (explB A (tA T j) = explB A t) := yz (by rw [yy HTE])
          generalize explB A t = ev at *
          obtain ⟨t1, t2, t3, t4⟩ := t
          simp only at c0 c1 c2' c3' cEt
          go_wp2_with fail
          refine (yy cEt _ ((yy HS).kept (yy HB)) ((yy HD).kept (yy HB)) ((yy HI).kept (yy HB))).mono ?_
          rintro e W5 ⟨rfl, hx⟩
          have HT2 := yz ((yy HT).kept hx)
          have HR2 := yz ((yy HRB).kept hx)
          have HB2 := yz (below_call (yy HB) hx)
          have x0 := cellKept c0 hx
          have x1 := cellKept c1 hx
          have x2 := cellKept c2' hx
          have x3 := cellKept c3' hx
          clear hx HT HRB HB cEt c0 c1 c2' c3'
          cases ev
          · clear x0 x1 x2 x3
            go_wp2_with fail
            go_roundw
            case rel => exact ⟨j + 1, by omega, by go_num, yz (fun l hl => by
              by_cases e : l = j
              · rw [e]; exact yy HEX
              · exact yy HF l (by omega)), HT2, HR2, HB2⟩
            case measure => simp [intOf]; omega
          · have HRV : Hid (RV = ((t1, t2, t3, t4), 0)) := yz (by rw [yy HR]; exact yy HF1j rfl)
            obtain ⟨r0, r1, r2, r3, r4⟩ := bcs5 (yy HR2)
            obtain ⟨f0, f1, f2, f3, f4⟩ := bfs5 (yy HR2)
            go_wp2_with fail
            exact bodyPost_ret (v := .agg #[.int .i64 t1, .int .i64 t2, .int .i64 t3, .int .i64 t4, .int .i64 0]) (by simp [results, Tryz.results145, go_sem, r0, r1, r2, r3, r4]) rfl ⟨by rw [yy HRV]; rfl, below_set5' (yy HB2) (Nat.le_refl _) _ _ _ _ _⟩
        · have hjn' : j = tn := by omega
          subst hjn'
          have HRV : Hid (RV = ((0, 0, 0, 0), 6)) := yz (by rw [yy HR]; exact yy HF2 (yy HF))
          obtain ⟨r0, r1, r2, r3, r4⟩ := bcs5 (yy HRB)
          obtain ⟨f0, f1, f2, f3, f4⟩ := bfs5 (yy HRB)
          go_wp2_with fail
          exact bodyPost_ret (v := .agg #[.int .i64 0, .int .i64 0, .int .i64 0, .int .i64 0, .int .i64 6]) (by simp [results, Tryz.results145, go_sem, r0, r1, r2, r3, r4]) rfl ⟨by rw [yy HRV]; rfl, below_set5' (yy HB) (Nat.le_refl _) _ _ _ _ _⟩
end Go.Proofs.YtofpjlhoppofdaaGreatDoor
namespace Go.Proofs.YtofpjlhoppofdaaGreatDoor
open Go.RowKit Go.Sort
set_option linter.unusedVariables false
set_option linter.unusedSimpArgs false
def turnOfV (L : List St) (S : List D3) : T4 × Int := if identK L S = 0 then forV L S (identL L S) else ((0, 0, 0, 0), identK L S)
def lookR (t : Tk) (S : List D3) : Tk :=
  if t.mode ≠ 0 ∧ 2 ≤ cntN (matchL t.L t.A t.B t.C t.D S) then trackT { t with fr := t.fr + 1 } t.A t.B t.C t.D
  else if (turnOfV t.L S).2 = 0 then trackT { t with fr := t.fr + 1 } (turnOfV t.L S).1.1 (turnOfV t.L S).1.2.1 (turnOfV t.L S).1.2.2.1 (turnOfV t.L S).1.2.2.2
  else unseenT { t with fr := t.fr + 1 }
theorem prow_nums {w : World} {lo hi n : Nat} {v : Value} {ids : List Int} (hl : ids.length = n) (h : PRow w 2 1 lo hi n v (fun j => .int .i64 (ids.getD j 0))) : ∃ a k, v = .slice a n k ∧ Nums w a ids n := by
  rcases h with ⟨rfl, a, k, rfl⟩ | ⟨g, k, rfl, _, _, hr⟩
  · exact ⟨a, k, rfl, .inl rfl⟩
  · exact ⟨_, k, rfl, nums_of hr⟩
theorem outI_nums {w' : World} {B : Nat} {ids : List Int} {cnt code : Int} {e : Ending} (h : OutI w' B ids cnt code e) : ∃ a k, e = .returned (.agg #[.slice a ids.length k, .int .i64 cnt, .int .i64 code]) ∧ Nums w' a ids ids.length := by
  obtain ⟨a, k, he, hp⟩ := prow_outI h
  obtain ⟨x, y, hv, hN⟩ := prow_nums (ids := ids) rfl (show PRow w' 2 1 B w'.heap.size ids.length (.slice a ids.length k) (fun j => .int .i64 (ids.getD j 0)) from hp)
  rw [hv] at he
  exact ⟨x, y, he, hN⟩
end Go.Proofs.YtofpjlhoppofdaaGreatDoor
namespace Go.Proofs.YtofpjlhoppofdaaGreatDoor
open Go.RowKit Go.Sort
set_option linter.unusedVariables false
theorem OwnS.row {w : World} {b n : Nat} {L : List St} (h : OwnS w b n L n) : OwnR w (some ⟨b, 0, none⟩) n (some b) := by
  obtain ⟨cur, hc, hn, hs⟩ := h
  refine .inr ⟨b, fun j => match j % 4 with | 0 => (stA L (j / 4)).1 | 1 => (stA L (j / 4)).2.1 | 2 => (stA L (j / 4)).2.2.1 | _ => (stA L (j / 4)).2.2.2, rfl, rfl, cur, hc, fun j hj => ?_⟩
  obtain ⟨h0, h1, h2, h3⟩ := hs (j / 4) (by omega)
  have h4 : j % 4 = 0 ∨ j % 4 = 1 ∨ j % 4 = 2 ∨ j % 4 = 3 := by omega
  rcases h4 with h4 | h4 | h4 | h4
  · dsimp only; rw [h4]; rw [show j / 4 * 4 = j by omega] at h0; exact h0
  · dsimp only; rw [h4]; rw [show j / 4 * 4 + 1 = j by omega] at h1; exact h1
  · dsimp only; rw [h4]; rw [show j / 4 * 4 + 2 = j by omega] at h2; exact h2
  · dsimp only; rw [h4]; rw [show j / 4 * 4 + 3 = j by omega] at h3; exact h3
theorem Copied.grown {w w' : World} {B : Nat} {L : List St} {a : Option Addr} {cap : Nat} {row : Option Nat} (h : Copied w B L a cap) (hg : w.grownBy w' row) (hne : ∀ g, row = some g → g < B) : Copied w' B L a cap := by
  obtain ⟨h1, h2⟩ := h
  refine ⟨h1, ?_⟩
  rcases h2 with h2 | ⟨g, c', cur, e, hb, hh, r⟩
  · exact .inl h2
  · exact .inr ⟨g, c', cur, e, hb, by rw [hg.block g (Array.getElem?_eq_some_iff.1 hh).1 (fun e => by have := hne g e.symm; omega)]; exact hh, r⟩
theorem Stars.grown {w w' : World} {a : Option Addr} {L : List St} {n : Nat} {row : Option Nat} (h : Stars w a L n) (hg : w.grownBy w' row) (hne : ∀ x g, a = some x → row = some g → x.block ≠ g) : Stars w' a L n := by
  rcases h with h | ⟨b, o, rfl, hb, hc⟩
  · exact .inl h
  · refine .inr ⟨b, o, rfl, Nat.lt_of_lt_of_le hb hg.size, fun i hi => ?_⟩
    have e : w'.heap[b]? = w.heap[b]? := hg.block b hb (fun e => hne _ b rfl e.symm rfl)
    obtain ⟨c0, c1, c2, c3⟩ := hc i hi
    exact ⟨(World.cell?_of_block (a := ⟨b, _, none⟩) e).trans c0, (World.cell?_of_block (a := ⟨b, _, none⟩) e).trans c1, (World.cell?_of_block (a := ⟨b, _, none⟩) e).trans c2, (World.cell?_of_block (a := ⟨b, _, none⟩) e).trans c3⟩
theorem Copied.block {w : World} {B : Nat} {L : List St} {a : Option Addr} {cap : Nat} (h : Copied w B L a cap) (x : Addr) (e : a = some x) : B ≤ x.block ∧ x.block < w.heap.size := by
  rcases h.2 with ⟨h1, _⟩ | ⟨g, c', cur, e', hb, hh, r⟩
  · injection h1 with h1; rw [h1] at e; cases e
  · injection e' with e1; rw [e1] at e; cases e; exact ⟨hb, (Array.getElem?_eq_some_iff.1 hh).1⟩
end Go.Proofs.YtofpjlhoppofdaaGreatDoor
namespace Go.Proofs.YtofpjlhoppofdaaGreatDoor
open Go.RowKit Go.Sort
set_option linter.unusedVariables false
set_option linter.unusedSimpArgs false
def lookT (t : Tk) (S : List D3) : Tk := if 400 < S.length then zeroK else if (trackB t && spotsB S) = true then (if t.fr = 1000000 then zeroK else lookR t S) else zeroK
def lookC (t : Tk) (S : List D3) : Int := if 400 < S.length then 2 else if (trackB t && spotsB S) = true then (if t.fr = 1000000 then 9 else 0) else 1
theorem look_big {t : Tk} {S : List D3} (h : 400 < S.length) : lookT t S = zeroK ∧ lookC t S = 2 := by unfold lookT lookC; rw [if_pos h, if_pos h]; exact ⟨rfl, rfl⟩
theorem look_ill {t : Tk} {S : List D3} (h : ¬ 400 < S.length) (h1 : (trackB t && spotsB S) = false) : lookT t S = zeroK ∧ lookC t S = 1 := by unfold lookT lookC; rw [if_neg h, if_neg h, h1]; exact ⟨rfl, rfl⟩
theorem look_full {t : Tk} {S : List D3} (h : ¬ 400 < S.length) (h1 : trackB t = true) (h2 : spotsB S = true) (h3 : t.fr = 1000000) : lookT t S = zeroK ∧ lookC t S = 9 := by unfold lookT lookC; rw [if_neg h, if_neg h, h1, h2, if_pos h3, if_pos h3]; exact ⟨rfl, rfl⟩
theorem look_yes {t : Tk} {S : List D3} (h : ¬ 400 < S.length) (h1 : trackB t = true) (h2 : spotsB S = true) (h3 : t.fr ≠ 1000000) : lookT t S = lookR t S ∧ lookC t S = 0 := by unfold lookT lookC; rw [if_neg h, if_neg h, h1, h2, if_neg h3, if_neg h3]; exact ⟨rfl, rfl⟩
theorem unseen_L (t : Tk) : (unseenT t).L = t.L := by
  unfold unseenT
  split
  · rfl
  · split <;> rfl
theorem lookR_L (t : Tk) (S : List D3) : (lookR t S).L = t.L := by
  unfold lookR
  split
  · rfl
  · split
    · rfl
    · rw [unseen_L]
theorem look_bounds {t : Tk} (h : trackB t = true) : skyB t.L = true ∧ (t.mode = 0 ∨ t.mode = 1 ∨ t.mode = 2) ∧ (t.mode ≠ 0 → rightT t.A t.B t.C t.D = true) ∧ (0 ≤ t.coast ∧ t.coast ≤ 5) ∧ (0 ≤ t.fr ∧ t.fr ≤ 1000000) := by
  unfold trackB headB at h
  simp only [Bool.and_eq_true] at h
  obtain ⟨⟨⟨hs, hl⟩, hf⟩, hm⟩ := h
  rw [span_iff] at hl hf
  unfold modeB at hm
  split at hm
  · rename_i h0
    simp only [Bool.and_eq_true, decide_eq_true_eq] at hm
    exact ⟨hs, .inl h0, fun h => absurd h0 h, by omega, hf⟩
  · split at hm
    · rename_i h0
      simp only [Bool.and_eq_true, decide_eq_true_eq] at hm
      exact ⟨hs, .inr (.inl h0), fun _ => hm.1, by omega, hf⟩
    · split at hm
      · rename_i h0
        simp only [Bool.and_eq_true, span_iff] at hm
        exact ⟨hs, .inr (.inr h0), fun _ => hm.1, by omega, hf⟩
      · cases hm
theorem blk_set10 {w : World} {b : Nat} {L : List Value} {t : TypeId} (h : Blk w b L t) (hl : L.length = 10) (v : Value) (lim mode A B C D coast fr code : Int) : Blk ((((((((((w.setCell ⟨b, 0, none⟩ v).setCell ⟨b, 1, none⟩ (.int .i64 lim)).setCell ⟨b, 2, none⟩ (.int .i64 mode)).setCell ⟨b, 3, none⟩ (.int .i64 A)).setCell ⟨b, 4, none⟩ (.int .i64 B)).setCell ⟨b, 5, none⟩ (.int .i64 C)).setCell ⟨b, 6, none⟩ (.int .i64 D)).setCell ⟨b, 7, none⟩ (.int .i64 coast)).setCell ⟨b, 8, none⟩ (.int .i64 fr)).setCell ⟨b, 9, none⟩ (.int .i64 code)) b [v, .int .i64 lim, .int .i64 mode, .int .i64 A, .int .i64 B, .int .i64 C, .int .i64 D, .int .i64 coast, .int .i64 fr, .int .i64 code] t := by
  match L, hl with
  | [x0, x1, x2, x3, x4, x5, x6, x7, x8, x9], _ => exact (((((((((h.set 0 _).set 1 _).set 2 _).set 3 _).set 4 _).set 5 _).set 6 _).set 7 _).set 8 _).set 9 _
theorem tkO_blk {w : World} {b : Nat} {t : TypeId} {v : Value} {lim mode A B C D coast fr code : Int} (h : Blk w b [v, .int .i64 lim, .int .i64 mode, .int .i64 A, .int .i64 B, .int .i64 C, .int .i64 D, .int .i64 coast, .int .i64 fr, .int .i64 code] t) : TkO w b v lim mode A B C D coast fr code := ⟨⟨h.cell 0 _ rfl, h.cell 1 _ rfl, h.cell 2 _ rfl, h.cell 3 _ rfl, h.cell 4 _ rfl, h.cell 5 _ rfl, h.cell 6 _ rfl, h.cell 7 _ rfl, h.cell 8 _ rfl⟩, h.cell 9 _ rfl⟩
theorem res_slook7 (T : Array Value) (X : World) (b : Nat) (v : Value) (lim mode A B C D coast fr code : Int) (hT : T.getD 4 undef = .pointer (some ⟨b, 0, none⟩)) (h : TkO X b v lim mode A B C D coast fr code) : (results Tryz.f111 T).run Tryz.prog X = .ok (.agg #[v, .int .i64 lim, .int .i64 mode, .int .i64 A, .int .i64 B, .int .i64 C, .int .i64 D, .int .i64 coast, .int .i64 fr, .int .i64 code]) X := by
  obtain ⟨⟨h0, h1, h2, h3, h4, h5, h6, h7, h8⟩, h9⟩ := h
  simp only [Array.getD_eq_getD_getElem?] at hT
  simp [results, Tryz.results111, go_sem, hT, h0, h1, h2, h3, h4, h5, h6, h7, h8, h9]
theorem res_slook (T : Array Value) (X : World) (b : Nat) (v : Value) (lim mode A B C D coast fr code : Int) (hT : T.getD 4 undef = .pointer (some ⟨b, 0, none⟩)) (h : TkO X b v lim mode A B C D coast fr code) : (results Tryz.f68 T).run Tryz.prog X = .ok (.agg #[v, .int .i64 lim, .int .i64 mode, .int .i64 A, .int .i64 B, .int .i64 C, .int .i64 D, .int .i64 coast, .int .i64 fr, .int .i64 code]) X := by
  obtain ⟨⟨h0, h1, h2, h3, h4, h5, h6, h7, h8⟩, h9⟩ := h
  simp only [Array.getD_eq_getD_getElem?] at hT
  simp [results, Tryz.results68, go_sem, hT, h0, h1, h2, h3, h4, h5, h6, h7, h8, h9]
theorem turnOf_yes {L : List St} {S : List D3} (hk : skyB L = true) (hp : spotsB S = true) (h0 : idCode L S = 0) : turnOfV L S = forV L S (idIds L S) := by
  have h12 := (sky_ok hk).1
  have h6 := (spots_ok hp).1
  obtain ⟨e1, e2, e3⟩ := ident_yes (L := L) (S := S) (by omega) (by unfold idOk; rw [hk, hp]; rfl)
  unfold turnOfV
  rw [e3, if_pos h0, e1]
theorem turnOf_no {L : List St} {S : List D3} (hk : skyB L = true) (hp : spotsB S = true) (h0 : idCode L S ≠ 0) : (turnOfV L S).2 ≠ 0 := by
  have h12 := (sky_ok hk).1
  have h6 := (spots_ok hp).1
  obtain ⟨e1, e2, e3⟩ := ident_yes (L := L) (S := S) (by omega) (by unfold idOk; rw [hk, hp]; rfl)
  unfold turnOfV
  rw [e3, if_neg h0]
  exact h0
set_option maxHeartbeats 16000000 in
set_option maxRecDepth 100000 in
theorem l07Look_any (L : List St) (S : List D3) (lim mode A B C D coast fr : Int) (ad : Option Addr) (c : Nat) (br : Option Addr) (dr : Nat) (w : World) (hn : L.length ≤ 1048576) (hdr : S.length ≤ dr) (hd9 : dr ≤ 9223372036854775807) (hS : Stars w ad L L.length) (hD : Dirs w br S S.length) (hb : ∀ y, ad = some y → y.block < w.heap.size) (hB : ∀ y, br = some y → y.block < w.heap.size) (hsk : skyB L = true) (hsp : spotsB S = true) (hm : mode = 0 ∨ mode = 1 ∨ mode = 2) (hr : mode ≠ 0 → rightT A B C D = true) (hc0 : 0 ≤ coast) (hc5 : coast ≤ 5) (hf0 : 0 ≤ fr) (hf1 : fr ≤ 1000000) :
    Calls Tryz.prog 111 #[.agg #[.slice ad L.length c, .int .i64 lim, .int .i64 mode, .int .i64 A, .int .i64 B, .int .i64 C, .int .i64 D, .int .i64 coast, .int .i64 fr], .slice br S.length dr] w fun e w' => OutT w' w.heap.size (lookR ⟨L, lim, mode, A, B, C, D, coast, fr⟩ S) 0 e ∧ Below w.heap.size w w' := by
  have hwr : wrap64 (fr + 1) = fr + 1 := wrap_id (by omega) (by omega)
  have hwc : wrap64 (coast + 1) = coast + 1 := wrap_id (by omega) (by omega)
  have B0 := yz (below2 w (.cells #[.slice ad L.length c, .int .i64 lim, .int .i64 mode, .int .i64 A, .int .i64 B, .int .i64 C, .int .i64 D, .int .i64 coast, .int .i64 fr] 48) (.cells #[.slice none 0 0, .int .i64 0, .int .i64 0, .int .i64 0, .int .i64 0, .int .i64 0, .int .i64 0, .int .i64 0, .int .i64 0, .int .i64 0] 50))
  have A0 := yz ((blk_new w [.slice ad L.length c, .int .i64 lim, .int .i64 mode, .int .i64 A, .int .i64 B, .int .i64 C, .int .i64 D, .int .i64 coast, .int .i64 fr] 48).alloc (.cells #[.slice none 0 0, .int .i64 0, .int .i64 0, .int .i64 0, .int .i64 0, .int .i64 0, .int .i64 0, .int .i64 0, .int .i64 0, .int .i64 0] 50))
  have R0 := yz (by simpa using blk_new (w.alloc (.cells #[.slice ad L.length c, .int .i64 lim, .int .i64 mode, .int .i64 A, .int .i64 B, .int .i64 C, .int .i64 D, .int .i64 coast, .int .i64 fr] 48)) [.slice none 0 0, .int .i64 0, .int .i64 0, .int .i64 0, .int .i64 0, .int .i64 0, .int .i64 0, .int .i64 0, .int .i64 0, .int .i64 0] 50 : Blk ((w.alloc (.cells #[.slice ad L.length c, .int .i64 lim, .int .i64 mode, .int .i64 A, .int .i64 B, .int .i64 C, .int .i64 D, .int .i64 coast, .int .i64 fr] 48)).alloc (.cells #[.slice none 0 0, .int .i64 0, .int .i64 0, .int .i64 0, .int .i64 0, .int .i64 0, .int .i64 0, .int .i64 0, .int .i64 0, .int .i64 0] 50)) (w.heap.size + 1) [.slice none 0 0, .int .i64 0, .int .i64 0, .int .i64 0, .int .i64 0, .int .i64 0, .int .i64 0, .int .i64 0, .int .i64 0, .int .i64 0] 50)
  have hl0 : w.heap.size + 1 + 1 ≤ ((w.alloc (.cells #[.slice ad L.length c, .int .i64 lim, .int .i64 mode, .int .i64 A, .int .i64 B, .int .i64 C, .int .i64 D, .int .i64 coast, .int .i64 fr] 48)).alloc (.cells #[.slice none 0 0, .int .i64 0, .int .i64 0, .int .i64 0, .int .i64 0, .int .i64 0, .int .i64 0, .int .i64 0, .int .i64 0, .int .i64 0] 50)).heap.size := by simp
  have cC := yz (l07Copy_any L lim mode A B C D coast fr ad c _ hn (hS.kept (yy B0)))
  have cM : Hid (mode ≠ 0 → ∀ W : World, Below w.heap.size w W → Calls Tryz.prog 143 #[.slice ad L.length c, .agg #[.int .i64 A, .int .i64 B, .int .i64 C, .int .i64 D], .slice br S.length dr] W fun e w' => (∃ v, e = .returned (.tuple #[v, .int .i64 (cntN (matchL L A B C D S) : Int)])) ∧ Below W.heap.size W w') := yz (fun h0 W h => (l06Match_any L S _ br c dr A B C D W hsk (hr h0) hsp (hS.kept h) (hD.kept h)).mono fun e w' hh => by
    obtain ⟨⟨v, he, _⟩, hx⟩ := hh
    rw [hits_cnt hsk (hr h0) hsp] at he
    exact ⟨⟨v, he⟩, hx⟩)
  have cI := yz (fun (W : World) (h : Below w.heap.size w W) => l06Identify_any L S ad br c dr W hsk hsp hdr hd9 (hS.kept h) (hD.kept h) (fun y e => Nat.lt_of_lt_of_le (hb y e) h.size) (fun y e => Nat.lt_of_lt_of_le (hB y e) h.size))
  obtain ⟨⟨⟨t1, t2, t3, t4⟩, tc⟩, htv⟩ : ∃ z, turnOfV L S = z := ⟨_, rfl⟩
  have cF : Hid (idCode L S = 0 → ∀ (W : World) (x : Option Addr) (k : Nat), Below w.heap.size w W → Nums W x (idIds L S) (idIds L S).length → Calls Tryz.prog 145 #[.slice ad L.length c, .slice br S.length dr, .slice x (idIds L S).length k] W fun e w' => e = .returned (.agg #[.int .i64 t1, .int .i64 t2, .int .i64 t3, .int .i64 t4, .int .i64 tc]) ∧ Below W.heap.size W w') := yz (fun h0 W x k h hN => by
    have h1 := l06For_any L S (idIds L S) _ br x c dr k W (found_named hsk hsp h0) (hS.kept h) (hD.kept h) hN
    rw [for_found hsk hsp h0, ← turnOf_yes hsk hsp h0, htv] at h1
    exact h1)
  have hTN : Hid (idCode L S ≠ 0 → tc ≠ 0) := yz (fun h0 => by have := turnOf_no hsk hsp h0; rw [htv] at this; exact this)
  have hO1 : Hid (mode ≠ 0 → 2 ≤ cntN (matchL L A B C D S) → lookR ⟨L, lim, mode, A, B, C, D, coast, fr⟩ S = ⟨L, lim, 1, A, B, C, D, 0, fr + 1⟩) := yz (fun h1 h2 => by unfold lookR; rw [if_pos ⟨h1, h2⟩]; rfl)
  have hO2 : Hid (¬ (mode ≠ 0 ∧ 2 ≤ cntN (matchL L A B C D S)) → tc = 0 → lookR ⟨L, lim, mode, A, B, C, D, coast, fr⟩ S = ⟨L, lim, 1, t1, t2, t3, t4, 0, fr + 1⟩) := yz (fun h1 h2 => by unfold lookR; dsimp only; rw [if_neg h1, htv, if_pos h2]; rfl)
  have hO3 : Hid (¬ (mode ≠ 0 ∧ 2 ≤ cntN (matchL L A B C D S)) → tc ≠ 0 → lookR ⟨L, lim, mode, A, B, C, D, coast, fr⟩ S = unseenT ⟨L, lim, mode, A, B, C, D, coast, fr + 1⟩) := yz (fun h1 h2 => by unfold lookR; dsimp only; rw [if_neg h1, htv, if_neg h2])
  have hid := identL_len L S
  generalize cntN (matchL L A B C D S) = cn at *
  clear hS htv hsk hsp hr hf0 hf1 hid
  have hm0 := hm
  clear hm
  go_enter Tryz.func111, Tryz.ntmps111
  go_wp2_with fail
  refine (yy cC).mono ?_
  rintro e w2 ⟨a, cap, rfl, hC, hx⟩
  have Z := below1 w2 (.cells #[.slice a L.length cap, .int .i64 lim, .int .i64 mode, .int .i64 A, .int .i64 B, .int .i64 C, .int .i64 D, .int .i64 coast, .int .i64 (fr + 1)] 48)
  have C2 := yz ((hC.low (B' := w.heap.size + 1 + 1) (by omega)).kept Z)
  have hcb : ∀ y, a = some y → y.block < w2.heap.size := fun y e => (hC.block y e).2
  have p8 := (((yy A0).kept hx).kept (below1 w2 (.cells #[.slice a L.length cap, .int .i64 lim, .int .i64 mode, .int .i64 A, .int .i64 B, .int .i64 C, .int .i64 D, .int .i64 coast, .int .i64 fr] 48))).cell 8 _ rfl
  have A2 := yz (((yy A0).kept hx).kept Z)
  have R2 := yz (((yy R0).kept hx).kept Z)
  have B2 := yz (below_call (below_call (yy B0) hx) Z)
  have T2 := yz (blk_new w2 [.slice a L.length cap, .int .i64 lim, .int .i64 mode, .int .i64 A, .int .i64 B, .int .i64 C, .int .i64 D, .int .i64 coast, .int .i64 (fr + 1)] 48)
  have hl2 : w.heap.size + 1 + 1 ≤ w2.heap.size := Nat.le_trans hl0 hx.size
  have hD2 := yz (hD.kept (yy B2))
  clear hx hC Z A0 R0 B0 cC hl0 hD
  obtain ⟨q0, q1, q2, q3, q4, q5, q6, q7, q8⟩ := bcs9 (yy A2)
  obtain ⟨s0, s1, s2, s3, s4, s5, s6, s7, s8⟩ := bcs9 (yy T2)
  obtain ⟨f0, f1, f2, f3, f4, f5, f6, f7, f8⟩ := bfs9 (yy T2)
  by_cases h1 : mode = 0
  · have hneg : ¬ (mode ≠ 0 ∧ 2 ≤ cn) := fun h => h.1 h1
    subst h1
    go_wp2_with fail
    clear q0 q1 q2 q3 q4 q5 q6 q7 q8 s0 s1 s2 s3 s4 s5 s6 s7 s8 f0 f1 f2 f3 f4 f5 f6 f7 f8 p8
    refine (yy cI _ (yy B2)).mono ?_
    rintro e w4 ⟨hO, hx⟩
    obtain ⟨x, k, rfl, hv⟩ := outI_nums hO
    have Z := below1 w4 (.cells #[.slice x (idIds L S).length k, .int .i64 (idCnt L S), .int .i64 (idCode L S)] 87)
    have A4 := yz (((yy A2).kept hx).kept Z)
    have R4 := yz (((yy R2).kept hx).kept Z)
    have C4 := yz (((yy C2).kept hx).kept Z)
    have T4 := yz (((yy T2).kept hx).kept Z)
    have B4 := yz (below_call (below_call (yy B2) hx) Z)
    have I4 := yz (blk_new w4 [.slice x (idIds L S).length k, .int .i64 (idCnt L S), .int .i64 (idCode L S)] 87)
    have N4 := yz (hv.kept Z)
    clear hx hO hv Z
    have cF4 : Hid (idCode L S = 0 → Calls Tryz.prog 145 #[.slice ad L.length c, .slice br S.length dr, .slice x (idIds L S).length k] (w4.alloc (.cells #[.slice x (idIds L S).length k, .int .i64 (idCnt L S), .int .i64 (idCode L S)] 87)) fun e w' => e = .returned (.agg #[.int .i64 t1, .int .i64 t2, .int .i64 t3, .int .i64 t4, .int .i64 tc]) ∧ Below (w4.alloc (.cells #[.slice x (idIds L S).length k, .int .i64 (idCnt L S), .int .i64 (idCode L S)] 87)).heap.size (w4.alloc (.cells #[.slice x (idIds L S).length k, .int .i64 (idCnt L S), .int .i64 (idCode L S)] 87)) w') := yz (fun h0 => yy cF h0 _ x k (yy B4) (yy N4))
    clear N4
    generalize (idIds L S).length = nI at *
    generalize idCode L S = kd at *
    generalize idCnt L S = kc at *
    obtain ⟨j0, j1, j2⟩ := bcs3 (yy I4)
    obtain ⟨q0, q1, q2, q3, q4, q5, q6, q7, q8⟩ := bcs9 (yy A4)
    obtain ⟨s0, s1, s2, s3, s4, s5, s6, s7, s8⟩ := bcs9 (yy T4)
    obtain ⟨f0, f1, f2, f3, f4, f5, f6, f7, f8⟩ := bfs9 (yy T4)
    by_cases h3 : kd = 0
    · have cF5 := yz (yy cF4 h3)
      clear cF4
      subst h3
      go_wp2_with fail
      clear j0 j1 j2 q0 q1 q2 q3 q4 q5 q6 q7 q8 s0 s1 s2 s3 s4 s5 s6 s7 s8 f0 f1 f2 f3 f4 f5 f6 f7 f8
      refine (yy cF5).mono ?_
      rintro e w5 ⟨rfl, hx⟩
      have Z := below1 w5 (.cells #[.int .i64 t1, .int .i64 t2, .int .i64 t3, .int .i64 t4, .int .i64 tc] 97)
      have A5 := yz (((yy A4).kept hx).kept Z)
      have R5 := yz (((yy R4).kept hx).kept Z)
      have C5 := yz (((yy C4).kept hx).kept Z)
      have T5 := yz (((yy T4).kept hx).kept Z)
      have B5 := yz (below_call (below_call (yy B4) hx) Z)
      have U5 := yz (blk_new w5 [.int .i64 t1, .int .i64 t2, .int .i64 t3, .int .i64 t4, .int .i64 tc] 97)
      clear hx Z cF5 A4 R4 C4 T4 B4 I4
      obtain ⟨j0, j1, j2, j3, j4⟩ := bcs5 (yy U5)
      obtain ⟨q0, q1, q2, q3, q4, q5, q6, q7, q8⟩ := bcs9 (yy A5)
      obtain ⟨s0, s1, s2, s3, s4, s5, s6, s7, s8⟩ := bcs9 (yy T5)
      obtain ⟨f0, f1, f2, f3, f4, f5, f6, f7, f8⟩ := bfs9 (yy T5)
      by_cases h4 : tc = 0
      · have HO := yz (yy hO2 hneg h4)
        subst h4
        go_wp2_with fail
        clear j0 j1 j2 j3 j4 q0 q1 q2 q3 q4 q5 q6 q7 q8 s0 s1 s2 s3 s4 s5 s6 s7 s8 f0 f1 f2 f3 f4 f5 f6 f7 f8
        refine (l07Track_any lim _ A B C D coast (fr + 1) t1 t2 t3 t4 a L.length cap _).mono ?_
        rintro e w6 ⟨rfl, hx⟩
        have R6 := yz ((yy R5).kept hx)
        have C6 := yz ((yy C5).kept hx)
        have B6 := yz (below_call (yy B5) hx)
        clear hx
        obtain ⟨r0, r1, r2, r3, r4, r5, r6, r7, r8, r9⟩ := bcs10 (yy R6)
        obtain ⟨g0, g1, g2, g3, g4, g5, g6, g7, g8, g9⟩ := bfs10 (yy R6)
        go_wp2_with fail
        clear r0 r1 r2 r3 r4 r5 r6 r7 r8 r9 g0 g1 g2 g3 g4 g5 g6 g7 g8 g9
        rw [yy HO]
        refine bodyPost_ret (v := .agg #[.slice a L.length cap, .int .i64 lim, .int .i64 1, .int .i64 t1, .int .i64 t2, .int .i64 t3, .int .i64 t4, .int .i64 0, .int .i64 (fr + 1), .int .i64 0]) ?_ rfl ⟨⟨a, cap, rfl, ?_⟩, ?_⟩
        · refine res_slook7 _ _ (w.heap.size + 1) _ lim 1 t1 t2 t3 t4 0 (fr + 1) 0 rfl (tkO_blk (t := 50) (blk_set10 (L := [.slice none 0 0, .int .i64 0, .int .i64 0, .int .i64 0, .int .i64 0, .int .i64 0, .int .i64 0, .int .i64 0, .int .i64 0, .int .i64 0]) (t := 50) ?_ rfl _ lim 1 t1 t2 t3 t4 0 (fr + 1) 0))
          exact yy R6
        · refine Copied.low (B := w.heap.size + 1 + 1) ?_ (by omega)
          iterate 10 (refine Copied.far ?_ (Nat.lt_succ_self (w.heap.size + 1)) _ _)
          exact yy C6
        · iterate 10 (refine belowSet ?_ (show w.heap.size ≤ w.heap.size + 1 by omega) _ _)
          exact yy B6
      · skip
        obtain ⟨r0, r1, r2, r3, r4, r5, r6, r7, r8, r9⟩ := bcs10 (yy R5)
        obtain ⟨g0, g1, g2, g3, g4, g5, g6, g7, g8, g9⟩ := bfs10 (yy R5)
        have HO : Hid (lookR ⟨L, lim, 0, A, B, C, D, coast, fr⟩ S = ⟨L, lim, 0, A, B, C, D, coast, fr + 1⟩) := yz (by rw [yy hO3 hneg h4]; rfl)
        go_wp2_with fail
        clear q0 q1 q2 q3 q4 q5 q6 q7 q8 s0 s1 s2 s3 s4 s5 s6 s7 s8 f0 f1 f2 f3 f4 f5 f6 f7 f8 r0 r1 r2 r3 r4 r5 r6 r7 r8 r9 g0 g1 g2 g3 g4 g5 g6 g7 g8 g9 j0 j1 j2 j3 j4
        rw [yy HO]
        refine bodyPost_ret (v := .agg #[.slice a L.length cap, .int .i64 lim, .int .i64 0, .int .i64 A, .int .i64 B, .int .i64 C, .int .i64 D, .int .i64 coast, .int .i64 (fr + 1), .int .i64 0]) ?_ rfl ⟨⟨a, cap, rfl, ?_⟩, ?_⟩
        · refine res_slook7 _ _ (w.heap.size + 1) _ lim 0 A B C D coast (fr + 1) 0 rfl (tkO_blk (t := 50) (blk_set10 (L := [.slice none 0 0, .int .i64 0, .int .i64 0, .int .i64 0, .int .i64 0, .int .i64 0, .int .i64 0, .int .i64 0, .int .i64 0, .int .i64 0]) (t := 50) ?_ rfl _ lim 0 A B C D coast (fr + 1) 0))
          exact yy R5
        · refine Copied.low (B := w.heap.size + 1 + 1) ?_ (by omega)
          iterate 10 (refine Copied.far ?_ (Nat.lt_succ_self (w.heap.size + 1)) _ _)
          exact yy C5
        · iterate 10 (refine belowSet ?_ (show w.heap.size ≤ w.heap.size + 1 by omega) _ _)
          exact yy B5
    · have htc := yy hTN h3
      clear cF4
      obtain ⟨r0, r1, r2, r3, r4, r5, r6, r7, r8, r9⟩ := bcs10 (yy R4)
      obtain ⟨g0, g1, g2, g3, g4, g5, g6, g7, g8, g9⟩ := bfs10 (yy R4)
      have HO : Hid (lookR ⟨L, lim, 0, A, B, C, D, coast, fr⟩ S = ⟨L, lim, 0, A, B, C, D, coast, fr + 1⟩) := yz (by rw [yy hO3 hneg htc]; rfl)
      go_wp2_with fail
      clear q0 q1 q2 q3 q4 q5 q6 q7 q8 s0 s1 s2 s3 s4 s5 s6 s7 s8 f0 f1 f2 f3 f4 f5 f6 f7 f8 r0 r1 r2 r3 r4 r5 r6 r7 r8 r9 g0 g1 g2 g3 g4 g5 g6 g7 g8 g9 j0 j1 j2
      rw [yy HO]
      refine bodyPost_ret (v := .agg #[.slice a L.length cap, .int .i64 lim, .int .i64 0, .int .i64 A, .int .i64 B, .int .i64 C, .int .i64 D, .int .i64 coast, .int .i64 (fr + 1), .int .i64 0]) ?_ rfl ⟨⟨a, cap, rfl, ?_⟩, ?_⟩
      · refine res_slook7 _ _ (w.heap.size + 1) _ lim 0 A B C D coast (fr + 1) 0 rfl (tkO_blk (t := 50) (blk_set10 (L := [.slice none 0 0, .int .i64 0, .int .i64 0, .int .i64 0, .int .i64 0, .int .i64 0, .int .i64 0, .int .i64 0, .int .i64 0, .int .i64 0]) (t := 50) ?_ rfl _ lim 0 A B C D coast (fr + 1) 0))
        exact yy R4
      · refine Copied.low (B := w.heap.size + 1 + 1) ?_ (by omega)
        iterate 10 (refine Copied.far ?_ (Nat.lt_succ_self (w.heap.size + 1)) _ _)
        exact yy C4
      · iterate 10 (refine belowSet ?_ (show w.heap.size ≤ w.heap.size + 1 by omega) _ _)
        exact yy B4
  have cM2 := yz (yy cM h1 _ (yy B2))
  clear cM
  go_wp2_with fail
  clear q0 q1 q2 q3 q4 q5 q6 q7 q8 s0 s1 s2 s3 s4 s5 s6 s7 s8 f0 f1 f2 f3 f4 f5 f6 f7 f8 p8
  refine (yy cM2).mono ?_
  rintro e w3 ⟨⟨mv, rfl⟩, hx⟩
  have A3 := yz ((yy A2).kept hx)
  have R3 := yz ((yy R2).kept hx)
  have C3 := yz ((yy C2).kept hx)
  have T3 := yz ((yy T2).kept hx)
  have B3 := yz (below_call (yy B2) hx)
  clear hx cM2 A2 R2 C2 T2 B2
  obtain ⟨q0, q1, q2, q3, q4, q5, q6, q7, q8⟩ := bcs9 (yy A3)
  obtain ⟨s0, s1, s2, s3, s4, s5, s6, s7, s8⟩ := bcs9 (yy T3)
  obtain ⟨f0, f1, f2, f3, f4, f5, f6, f7, f8⟩ := bfs9 (yy T3)
  by_cases h2 : 2 ≤ cn
  · have HO := yz (yy hO1 h1 h2)
    have h2' : (2 : Int) ≤ (cn : Int) := by omega
    go_wp2_with fail
    clear q0 q1 q2 q3 q4 q5 q6 q7 q8 s0 s1 s2 s3 s4 s5 s6 s7 s8 f0 f1 f2 f3 f4 f5 f6 f7 f8
    refine (l07Track_any lim _ A B C D coast (fr + 1) A B C D a L.length cap _).mono ?_
    rintro e w4 ⟨rfl, hx⟩
    have R4 := yz ((yy R3).kept hx)
    have C4 := yz ((yy C3).kept hx)
    have B4 := yz (below_call (yy B3) hx)
    clear hx
    obtain ⟨r0, r1, r2, r3, r4, r5, r6, r7, r8, r9⟩ := bcs10 (yy R4)
    obtain ⟨g0, g1, g2, g3, g4, g5, g6, g7, g8, g9⟩ := bfs10 (yy R4)
    go_wp2_with fail
    clear r0 r1 r2 r3 r4 r5 r6 r7 r8 r9 g0 g1 g2 g3 g4 g5 g6 g7 g8 g9
    rw [yy HO]
    refine bodyPost_ret (v := .agg #[.slice a L.length cap, .int .i64 lim, .int .i64 1, .int .i64 A, .int .i64 B, .int .i64 C, .int .i64 D, .int .i64 0, .int .i64 (fr + 1), .int .i64 0]) ?_ rfl ⟨⟨a, cap, rfl, ?_⟩, ?_⟩
    · refine res_slook7 _ _ (w.heap.size + 1) _ lim 1 A B C D 0 (fr + 1) 0 rfl (tkO_blk (t := 50) (blk_set10 (L := [.slice none 0 0, .int .i64 0, .int .i64 0, .int .i64 0, .int .i64 0, .int .i64 0, .int .i64 0, .int .i64 0, .int .i64 0, .int .i64 0]) (t := 50) ?_ rfl _ lim 1 A B C D 0 (fr + 1) 0))
      exact yy R4
    · refine Copied.low (B := w.heap.size + 1 + 1) ?_ (by omega)
      iterate 10 (refine Copied.far ?_ (Nat.lt_succ_self (w.heap.size + 1)) _ _)
      exact yy C4
    · iterate 10 (refine belowSet ?_ (show w.heap.size ≤ w.heap.size + 1 by omega) _ _)
      exact yy B4
  have hneg : ¬ (mode ≠ 0 ∧ 2 ≤ cn) := fun h => h2 h.2
  have h2' : ¬ (2 : Int) ≤ (cn : Int) := by omega
  go_wp2_with fail
  clear q0 q1 q2 q3 q4 q5 q6 q7 q8 s0 s1 s2 s3 s4 s5 s6 s7 s8 f0 f1 f2 f3 f4 f5 f6 f7 f8
  refine (yy cI _ (yy B3)).mono ?_
  rintro e w4 ⟨hO, hx⟩
  obtain ⟨x, k, rfl, hv⟩ := outI_nums hO
  have Z := below1 w4 (.cells #[.slice x (idIds L S).length k, .int .i64 (idCnt L S), .int .i64 (idCode L S)] 87)
  have A4 := yz (((yy A3).kept hx).kept Z)
  have R4 := yz (((yy R3).kept hx).kept Z)
  have C4 := yz (((yy C3).kept hx).kept Z)
  have T4 := yz (((yy T3).kept hx).kept Z)
  have B4 := yz (below_call (below_call (yy B3) hx) Z)
  have I4 := yz (blk_new w4 [.slice x (idIds L S).length k, .int .i64 (idCnt L S), .int .i64 (idCode L S)] 87)
  have N4 := yz (hv.kept Z)
  clear hx hO hv Z
  have cF4 : Hid (idCode L S = 0 → Calls Tryz.prog 145 #[.slice ad L.length c, .slice br S.length dr, .slice x (idIds L S).length k] (w4.alloc (.cells #[.slice x (idIds L S).length k, .int .i64 (idCnt L S), .int .i64 (idCode L S)] 87)) fun e w' => e = .returned (.agg #[.int .i64 t1, .int .i64 t2, .int .i64 t3, .int .i64 t4, .int .i64 tc]) ∧ Below (w4.alloc (.cells #[.slice x (idIds L S).length k, .int .i64 (idCnt L S), .int .i64 (idCode L S)] 87)).heap.size (w4.alloc (.cells #[.slice x (idIds L S).length k, .int .i64 (idCnt L S), .int .i64 (idCode L S)] 87)) w') := yz (fun h0 => yy cF h0 _ x k (yy B4) (yy N4))
  clear N4
  generalize (idIds L S).length = nI at *
  generalize idCode L S = kd at *
  generalize idCnt L S = kc at *
  obtain ⟨j0, j1, j2⟩ := bcs3 (yy I4)
  obtain ⟨q0, q1, q2, q3, q4, q5, q6, q7, q8⟩ := bcs9 (yy A4)
  obtain ⟨s0, s1, s2, s3, s4, s5, s6, s7, s8⟩ := bcs9 (yy T4)
  obtain ⟨f0, f1, f2, f3, f4, f5, f6, f7, f8⟩ := bfs9 (yy T4)
  by_cases h3 : kd = 0
  · have cF5 := yz (yy cF4 h3)
    clear cF4
    subst h3
    go_wp2_with fail
    clear j0 j1 j2 q0 q1 q2 q3 q4 q5 q6 q7 q8 s0 s1 s2 s3 s4 s5 s6 s7 s8 f0 f1 f2 f3 f4 f5 f6 f7 f8
    refine (yy cF5).mono ?_
    rintro e w5 ⟨rfl, hx⟩
    have Z := below1 w5 (.cells #[.int .i64 t1, .int .i64 t2, .int .i64 t3, .int .i64 t4, .int .i64 tc] 97)
    have A5 := yz (((yy A4).kept hx).kept Z)
    have R5 := yz (((yy R4).kept hx).kept Z)
    have C5 := yz (((yy C4).kept hx).kept Z)
    have T5 := yz (((yy T4).kept hx).kept Z)
    have B5 := yz (below_call (below_call (yy B4) hx) Z)
    have U5 := yz (blk_new w5 [.int .i64 t1, .int .i64 t2, .int .i64 t3, .int .i64 t4, .int .i64 tc] 97)
    clear hx Z cF5 A4 R4 C4 T4 B4 I4
    obtain ⟨j0, j1, j2, j3, j4⟩ := bcs5 (yy U5)
    obtain ⟨q0, q1, q2, q3, q4, q5, q6, q7, q8⟩ := bcs9 (yy A5)
    obtain ⟨s0, s1, s2, s3, s4, s5, s6, s7, s8⟩ := bcs9 (yy T5)
    obtain ⟨f0, f1, f2, f3, f4, f5, f6, f7, f8⟩ := bfs9 (yy T5)
    by_cases h4 : tc = 0
    · have HO := yz (yy hO2 hneg h4)
      subst h4
      go_wp2_with fail
      clear j0 j1 j2 j3 j4 q0 q1 q2 q3 q4 q5 q6 q7 q8 s0 s1 s2 s3 s4 s5 s6 s7 s8 f0 f1 f2 f3 f4 f5 f6 f7 f8
      refine (l07Track_any lim _ A B C D coast (fr + 1) t1 t2 t3 t4 a L.length cap _).mono ?_
      rintro e w6 ⟨rfl, hx⟩
      have R6 := yz ((yy R5).kept hx)
      have C6 := yz ((yy C5).kept hx)
      have B6 := yz (below_call (yy B5) hx)
      clear hx
      obtain ⟨r0, r1, r2, r3, r4, r5, r6, r7, r8, r9⟩ := bcs10 (yy R6)
      obtain ⟨g0, g1, g2, g3, g4, g5, g6, g7, g8, g9⟩ := bfs10 (yy R6)
      go_wp2_with fail
      clear r0 r1 r2 r3 r4 r5 r6 r7 r8 r9 g0 g1 g2 g3 g4 g5 g6 g7 g8 g9
      rw [yy HO]
      refine bodyPost_ret (v := .agg #[.slice a L.length cap, .int .i64 lim, .int .i64 1, .int .i64 t1, .int .i64 t2, .int .i64 t3, .int .i64 t4, .int .i64 0, .int .i64 (fr + 1), .int .i64 0]) ?_ rfl ⟨⟨a, cap, rfl, ?_⟩, ?_⟩
      · refine res_slook7 _ _ (w.heap.size + 1) _ lim 1 t1 t2 t3 t4 0 (fr + 1) 0 rfl (tkO_blk (t := 50) (blk_set10 (L := [.slice none 0 0, .int .i64 0, .int .i64 0, .int .i64 0, .int .i64 0, .int .i64 0, .int .i64 0, .int .i64 0, .int .i64 0, .int .i64 0]) (t := 50) ?_ rfl _ lim 1 t1 t2 t3 t4 0 (fr + 1) 0))
        exact yy R6
      · refine Copied.low (B := w.heap.size + 1 + 1) ?_ (by omega)
        iterate 10 (refine Copied.far ?_ (Nat.lt_succ_self (w.heap.size + 1)) _ _)
        exact yy C6
      · iterate 10 (refine belowSet ?_ (show w.heap.size ≤ w.heap.size + 1 by omega) _ _)
        exact yy B6
    · skip
      obtain ⟨r0, r1, r2, r3, r4, r5, r6, r7, r8, r9⟩ := bcs10 (yy R5)
      obtain ⟨g0, g1, g2, g3, g4, g5, g6, g7, g8, g9⟩ := bfs10 (yy R5)
      by_cases hlc : lim < coast + 1
      · have HO : Hid (lookR ⟨L, lim, mode, A, B, C, D, coast, fr⟩ S = ⟨L, lim, 0, 0, 0, 0, 0, 0, fr + 1⟩) := yz (by rw [yy hO3 hneg h4]; unfold unseenT; dsimp only; rw [if_neg h1, if_pos hlc]; rfl)
        go_wp2_with fail
        clear q0 q1 q2 q3 q4 q5 q6 q7 q8 s0 s1 s2 s3 s4 s5 s6 s7 s8 f0 f1 f2 f3 f4 f5 f6 f7 f8 r0 r1 r2 r3 r4 r5 r6 r7 r8 r9 g0 g1 g2 g3 g4 g5 g6 g7 g8 g9 j0 j1 j2 j3 j4
        refine (l07Lost_any lim 2 A B C D (coast + 1) (fr + 1) a L.length cap _).mono ?_
        rintro e w6 ⟨rfl, hx⟩
        have R6 := yz ((((yy R5).other ⟨w2.heap.size, 2, none⟩ (.int .i64 2) (show w.heap.size + 1 ≠ w2.heap.size by omega)).other ⟨w2.heap.size, 7, none⟩ (.int .i64 (coast + 1)) (show w.heap.size + 1 ≠ w2.heap.size by omega)).kept hx)
        have T6 := yz ((((yy T5).set 2 (.int .i64 2)).set 7 (.int .i64 (coast + 1))).kept hx)
        have C6 := yz ((((yy C5).off (fun y e => Nat.ne_of_lt (hcb y e)) 2 (.int .i64 2)).off (fun y e => Nat.ne_of_lt (hcb y e)) 7 (.int .i64 (coast + 1))).kept hx)
        have B6 := yz (below_call (belowSet (belowSet (yy B5) (show w.heap.size ≤ w2.heap.size by omega) 2 (.int .i64 2)) (show w.heap.size ≤ w2.heap.size by omega) 7 (.int .i64 (coast + 1))) hx)
        clear hx
        obtain ⟨s0, s1, s2, s3, s4, s5, s6, s7, s8⟩ := bcs9 (yy T6)
        obtain ⟨f0, f1, f2, f3, f4, f5, f6, f7, f8⟩ := bfs9 (yy T6)
        obtain ⟨r0, r1, r2, r3, r4, r5, r6, r7, r8, r9⟩ := bcs10 (yy R6)
        obtain ⟨g0, g1, g2, g3, g4, g5, g6, g7, g8, g9⟩ := bfs10 (yy R6)
        go_wp2_with fail
        clear s0 s1 s2 s3 s4 s5 s6 s7 s8 f0 f1 f2 f3 f4 f5 f6 f7 f8 r0 r1 r2 r3 r4 r5 r6 r7 r8 r9 g0 g1 g2 g3 g4 g5 g6 g7 g8 g9
        rw [yy HO]
        refine bodyPost_ret (v := .agg #[.slice a L.length cap, .int .i64 lim, .int .i64 0, .int .i64 0, .int .i64 0, .int .i64 0, .int .i64 0, .int .i64 0, .int .i64 (fr + 1), .int .i64 0]) ?_ rfl ⟨⟨a, cap, rfl, ?_⟩, ?_⟩
        · refine res_slook7 _ _ (w.heap.size + 1) _ lim 0 0 0 0 0 0 (fr + 1) 0 rfl (tkO_blk (t := 50) (blk_set10 (L := [.slice none 0 0, .int .i64 0, .int .i64 0, .int .i64 0, .int .i64 0, .int .i64 0, .int .i64 0, .int .i64 0, .int .i64 0, .int .i64 0]) (t := 50) ?_ rfl _ lim 0 0 0 0 0 0 (fr + 1) 0))
          iterate 9 (refine Blk.other ?_ _ _ (show w.heap.size + 1 ≠ w2.heap.size by omega))
          exact yy R6
        · refine Copied.low (B := w.heap.size + 1 + 1) ?_ (by omega)
          iterate 10 (refine Copied.far ?_ (Nat.lt_succ_self (w.heap.size + 1)) _ _)
          iterate 9 (refine Copied.off ?_ (fun y e => Nat.ne_of_lt (hcb y e)) _ _)
          exact yy C6
        · iterate 10 (refine belowSet ?_ (show w.heap.size ≤ w.heap.size + 1 by omega) _ _)
          iterate 9 (refine belowSet ?_ (show w.heap.size ≤ w2.heap.size by omega) _ _)
          exact yy B6
      · have HO : Hid (lookR ⟨L, lim, mode, A, B, C, D, coast, fr⟩ S = ⟨L, lim, 2, A, B, C, D, coast + 1, fr + 1⟩) := yz (by rw [yy hO3 hneg h4]; unfold unseenT; dsimp only; rw [if_neg h1, if_neg hlc])
        go_wp2_with fail
        clear q0 q1 q2 q3 q4 q5 q6 q7 q8 s0 s1 s2 s3 s4 s5 s6 s7 s8 f0 f1 f2 f3 f4 f5 f6 f7 f8 r0 r1 r2 r3 r4 r5 r6 r7 r8 r9 g0 g1 g2 g3 g4 g5 g6 g7 g8 g9 j0 j1 j2 j3 j4
        rw [yy HO]
        refine bodyPost_ret (v := .agg #[.slice a L.length cap, .int .i64 lim, .int .i64 2, .int .i64 A, .int .i64 B, .int .i64 C, .int .i64 D, .int .i64 (coast + 1), .int .i64 (fr + 1), .int .i64 0]) ?_ rfl ⟨⟨a, cap, rfl, ?_⟩, ?_⟩
        · refine res_slook7 _ _ (w.heap.size + 1) _ lim 2 A B C D (coast + 1) (fr + 1) 0 rfl (tkO_blk (t := 50) (blk_set10 (L := [.slice none 0 0, .int .i64 0, .int .i64 0, .int .i64 0, .int .i64 0, .int .i64 0, .int .i64 0, .int .i64 0, .int .i64 0, .int .i64 0]) (t := 50) ?_ rfl _ lim 2 A B C D (coast + 1) (fr + 1) 0))
          iterate 2 (refine Blk.other ?_ _ _ (show w.heap.size + 1 ≠ w2.heap.size by omega))
          exact yy R5
        · refine Copied.low (B := w.heap.size + 1 + 1) ?_ (by omega)
          iterate 10 (refine Copied.far ?_ (Nat.lt_succ_self (w.heap.size + 1)) _ _)
          iterate 2 (refine Copied.off ?_ (fun y e => Nat.ne_of_lt (hcb y e)) _ _)
          exact yy C5
        · iterate 10 (refine belowSet ?_ (show w.heap.size ≤ w.heap.size + 1 by omega) _ _)
          iterate 2 (refine belowSet ?_ (show w.heap.size ≤ w2.heap.size by omega) _ _)
          exact yy B5
  · have htc := yy hTN h3
    clear cF4
    obtain ⟨r0, r1, r2, r3, r4, r5, r6, r7, r8, r9⟩ := bcs10 (yy R4)
    obtain ⟨g0, g1, g2, g3, g4, g5, g6, g7, g8, g9⟩ := bfs10 (yy R4)
    by_cases hlc : lim < coast + 1
    · have HO : Hid (lookR ⟨L, lim, mode, A, B, C, D, coast, fr⟩ S = ⟨L, lim, 0, 0, 0, 0, 0, 0, fr + 1⟩) := yz (by rw [yy hO3 hneg htc]; unfold unseenT; dsimp only; rw [if_neg h1, if_pos hlc]; rfl)
      go_wp2_with fail
      clear q0 q1 q2 q3 q4 q5 q6 q7 q8 s0 s1 s2 s3 s4 s5 s6 s7 s8 f0 f1 f2 f3 f4 f5 f6 f7 f8 r0 r1 r2 r3 r4 r5 r6 r7 r8 r9 g0 g1 g2 g3 g4 g5 g6 g7 g8 g9 j0 j1 j2
      refine (l07Lost_any lim 2 A B C D (coast + 1) (fr + 1) a L.length cap _).mono ?_
      rintro e w6 ⟨rfl, hx⟩
      have R6 := yz ((((yy R4).other ⟨w2.heap.size, 2, none⟩ (.int .i64 2) (show w.heap.size + 1 ≠ w2.heap.size by omega)).other ⟨w2.heap.size, 7, none⟩ (.int .i64 (coast + 1)) (show w.heap.size + 1 ≠ w2.heap.size by omega)).kept hx)
      have T6 := yz ((((yy T4).set 2 (.int .i64 2)).set 7 (.int .i64 (coast + 1))).kept hx)
      have C6 := yz ((((yy C4).off (fun y e => Nat.ne_of_lt (hcb y e)) 2 (.int .i64 2)).off (fun y e => Nat.ne_of_lt (hcb y e)) 7 (.int .i64 (coast + 1))).kept hx)
      have B6 := yz (below_call (belowSet (belowSet (yy B4) (show w.heap.size ≤ w2.heap.size by omega) 2 (.int .i64 2)) (show w.heap.size ≤ w2.heap.size by omega) 7 (.int .i64 (coast + 1))) hx)
      clear hx
      obtain ⟨s0, s1, s2, s3, s4, s5, s6, s7, s8⟩ := bcs9 (yy T6)
      obtain ⟨f0, f1, f2, f3, f4, f5, f6, f7, f8⟩ := bfs9 (yy T6)
      obtain ⟨r0, r1, r2, r3, r4, r5, r6, r7, r8, r9⟩ := bcs10 (yy R6)
      obtain ⟨g0, g1, g2, g3, g4, g5, g6, g7, g8, g9⟩ := bfs10 (yy R6)
      go_wp2_with fail
      clear s0 s1 s2 s3 s4 s5 s6 s7 s8 f0 f1 f2 f3 f4 f5 f6 f7 f8 r0 r1 r2 r3 r4 r5 r6 r7 r8 r9 g0 g1 g2 g3 g4 g5 g6 g7 g8 g9
      rw [yy HO]
      refine bodyPost_ret (v := .agg #[.slice a L.length cap, .int .i64 lim, .int .i64 0, .int .i64 0, .int .i64 0, .int .i64 0, .int .i64 0, .int .i64 0, .int .i64 (fr + 1), .int .i64 0]) ?_ rfl ⟨⟨a, cap, rfl, ?_⟩, ?_⟩
      · refine res_slook7 _ _ (w.heap.size + 1) _ lim 0 0 0 0 0 0 (fr + 1) 0 rfl (tkO_blk (t := 50) (blk_set10 (L := [.slice none 0 0, .int .i64 0, .int .i64 0, .int .i64 0, .int .i64 0, .int .i64 0, .int .i64 0, .int .i64 0, .int .i64 0, .int .i64 0]) (t := 50) ?_ rfl _ lim 0 0 0 0 0 0 (fr + 1) 0))
        iterate 9 (refine Blk.other ?_ _ _ (show w.heap.size + 1 ≠ w2.heap.size by omega))
        exact yy R6
      · refine Copied.low (B := w.heap.size + 1 + 1) ?_ (by omega)
        iterate 10 (refine Copied.far ?_ (Nat.lt_succ_self (w.heap.size + 1)) _ _)
        iterate 9 (refine Copied.off ?_ (fun y e => Nat.ne_of_lt (hcb y e)) _ _)
        exact yy C6
      · iterate 10 (refine belowSet ?_ (show w.heap.size ≤ w.heap.size + 1 by omega) _ _)
        iterate 9 (refine belowSet ?_ (show w.heap.size ≤ w2.heap.size by omega) _ _)
        exact yy B6
    · have HO : Hid (lookR ⟨L, lim, mode, A, B, C, D, coast, fr⟩ S = ⟨L, lim, 2, A, B, C, D, coast + 1, fr + 1⟩) := yz (by rw [yy hO3 hneg htc]; unfold unseenT; dsimp only; rw [if_neg h1, if_neg hlc])
      go_wp2_with fail
      clear q0 q1 q2 q3 q4 q5 q6 q7 q8 s0 s1 s2 s3 s4 s5 s6 s7 s8 f0 f1 f2 f3 f4 f5 f6 f7 f8 r0 r1 r2 r3 r4 r5 r6 r7 r8 r9 g0 g1 g2 g3 g4 g5 g6 g7 g8 g9 j0 j1 j2
      rw [yy HO]
      refine bodyPost_ret (v := .agg #[.slice a L.length cap, .int .i64 lim, .int .i64 2, .int .i64 A, .int .i64 B, .int .i64 C, .int .i64 D, .int .i64 (coast + 1), .int .i64 (fr + 1), .int .i64 0]) ?_ rfl ⟨⟨a, cap, rfl, ?_⟩, ?_⟩
      · refine res_slook7 _ _ (w.heap.size + 1) _ lim 2 A B C D (coast + 1) (fr + 1) 0 rfl (tkO_blk (t := 50) (blk_set10 (L := [.slice none 0 0, .int .i64 0, .int .i64 0, .int .i64 0, .int .i64 0, .int .i64 0, .int .i64 0, .int .i64 0, .int .i64 0, .int .i64 0]) (t := 50) ?_ rfl _ lim 2 A B C D (coast + 1) (fr + 1) 0))
        iterate 2 (refine Blk.other ?_ _ _ (show w.heap.size + 1 ≠ w2.heap.size by omega))
        exact yy R4
      · refine Copied.low (B := w.heap.size + 1 + 1) ?_ (by omega)
        iterate 10 (refine Copied.far ?_ (Nat.lt_succ_self (w.heap.size + 1)) _ _)
        iterate 2 (refine Copied.off ?_ (fun y e => Nat.ne_of_lt (hcb y e)) _ _)
        exact yy C4
      · iterate 10 (refine belowSet ?_ (show w.heap.size ≤ w.heap.size + 1 by omega) _ _)
        iterate 2 (refine belowSet ?_ (show w.heap.size ≤ w2.heap.size by omega) _ _)
        exact yy B4
end Go.Proofs.YtofpjlhoppofdaaGreatDoor
