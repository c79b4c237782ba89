/- Several texts in one: TfB, TfC, LkB. -/
import Derived.Test.YtjdehbpgdplolaaGreatDoorQLookOwn20
import Derived.Test.YtjdehbpgdplolaaGreatDoorQLookOwn11
import Derived.Test.YtjdehbpgdplolaaGreatDoorQLookOwn9
import Derived.Test.YtjdehbpgdplolaaGreatDoorQLookOwn16
import Derived.Test.YtjdehbpgdplolaaGreatDoorQLookOwn19
import Derived.Test.YtjdehbpgdplolaaGreatDoorQLookOwn8
namespace Go.Proofs.YtjdehbpgdplolaaGreatDoor
open Go.RowKit Go.Sort
set_option linter.unusedVariables false

def turnedTo (L : List St) (S : List D3) (ids : List Int) (t : T4) (n : Nat) : Prop := ∀ j, j < n → (decide (ids.getD j 0 = 0) || bringsB t (sgOf L S ids j)) = true
theorem turnedTo_step {L : List St} {S : List D3} {ids : List Int} {t : T4} {n : Nat} (h : turnedTo L S ids t n) (h1 : (decide (ids.getD n 0 = 0) || bringsB t (sgOf L S ids n)) = true) : turnedTo L S ids t (n + 1) := fun l hl => by
  by_cases e : l = n
  · rw [e]; exact h1
  · exact h l (by omega)
set_option maxHeartbeats 4000000 in
set_option maxRecDepth 100000 in
theorem l06Turned_any (L : List St) (S : List D3) (ids : List Int) (t : T4) (k : Nat) (ar br ir : Option Addr) (cr dr er : Nat) (w : World) (hk6 : k ≤ 6) (hn : L.length ≤ 12) (ht : rightT t.1 t.2.1 t.2.2.1 t.2.2.2 = true) (hS : Stars w ar L L.length) (hD : Dirs w br S k) (hI : Nums w ir ids k)
    (hids : ∀ i, i < k → ids.getD i 0 ≠ 0 → smallB (atV L L.length (ids.getD i 0)).1 (atV L L.length (ids.getD i 0)).2.1 (atV L L.length (ids.getD i 0)).2.2 = true ∧ wideD (vA S i) = true) :
    Calls Tryz.prog 69 #[.slice ar L.length cr, .slice br k dr, .slice ir k er, .agg #[.int .i64 t.1, .int .i64 t.2.1, .int .i64 t.2.2.1, .int .i64 t.2.2.2]] w fun e w' => e = .returned (.bool (turnedI L S ids t k)) ∧ Below w.heap.size w w' := by
  have cA := hide (fun (W : World) (q : Int) hW => l04At_any L L.length q ar cr W (by omega) hW)
  have HNO : Hid (∀ i, i < k → (decide (ids.getD i 0 = 0) || bringsB t (sgOf L S ids i)) = false → turnedI L S ids t k = false) := hide (fun i hi h => turnedI_no hi h)
  have HYE : Hid (turnedTo L S ids t k → turnedI L S ids t k = true) := hide (fun h => turnedI_yes h)
  have HST : Hid (∀ n, turnedTo L S ids t n → (decide (ids.getD n 0 = 0) || bringsB t (sgOf L S ids n)) = true → turnedTo L S ids t (n + 1)) := hide (fun n h h1 => turnedTo_step h h1)
  have H0 : Hid (turnedTo L S ids t 0) := hide (fun j hj => absurd hj (Nat.not_lt_zero _))
  have HBR : Hid (∀ i, bringsB t (sgOf L S ids i) = sameD (vA S i) (apD t.1 t.2.1 t.2.2.1 t.2.2.2 (atV L L.length (ids.getD i 0)))) := hide (fun i => rfl)
  have HDS := hide hids
  have HT := hide ht
  have HS := hide hS
  have HD := hide hD
  clear hS hD hids ht
  generalize turnedI L S ids t k = R at *
  generalize turnedTo L S ids t = TT at *
  generalize bringsB t = br' at *
  obtain ⟨t1, t2, t3, t4⟩ := t
  simp only at HT HBR ⊢
  generalize L.length = n at *
  have V0 := hide (turnAt_new w t1 t2 t3 t4 31)
  have B0 := hide (below1 w (.cells #[.int .i64 t1, .int .i64 t2, .int .i64 t3, .int .i64 t4] 31))
  rcases hI with rfl | ⟨ib, io, rfl, hib, hic⟩
  · have HY := hide (unhide HYE (unhide H0))
    go_enter Tryz.func69, Tryz.ntmps69
    go_wp2_with fail
    refine wp_loop_rounds 1 ?_
    rw [rounds_succ]
    go_wp2_with fail
    go_ret
    exact ⟨by rw [unhide HY]; rfl, unhide B0⟩
  have HIC := hide hic
  clear hic
  go_enter Tryz.func69, Tryz.ntmps69
  go_wp2_with fail
  go_loopw [9] (fun kk wr => ∃ i : Nat, i ≤ k ∧ kk = .int .i64 i ∧ Hid (TT i) ∧ Hid (TurnAt wr w.heap.size t1 t2 t3 t4) ∧ Hid (Below w.heap.size w wr)) (fun kk _ => k - (intOf kk).toNat)
  case atStart => exact ⟨0, by omega, rfl, H0, V0, B0⟩
  case round =>
    clear V0 B0
    obtain ⟨i, hi, rfl, HF, HV, HB⟩ := hrel
    by_cases hik : i < k
    · have hik2 : (i : Int) < (k : Int) := by omega
      have ci : wr.cell? ⟨ib, io + i, none⟩ = some (.int .i64 (ids.getD i 0)) := by rw [(unhide HB).cell (p := ⟨ib, io + i, none⟩) hib]; exact unhide HIC i hik
      have HSTi := hide (unhide HST i (unhide HF))
      have HNOi := hide (unhide HNO i hik)
      have hds := unhide HDS i hik
      rw [unhide HBR i] at HSTi HNOi
      generalize ids.getD i 0 = x at *
      by_cases hx0 : x = 0
      · subst hx0
        have HF2 := hide (unhide HSTi rfl)
        have ri := cell_regrown ci
        clear ci
        have hnz : ((0 : Int) == 0) = true := rfl
        have hnz2 : decide ((0 : Int) ≠ 0) = false := by decide
        go_wp2_with fail
        refine wp_region_quiet_below (by kernel_rfl) (by kernel_rfl) ?_
        repeat (go_big_quiet_step (fail))
        refine wpQuiet_nil ?_
        intro _ hw'
        obtain ⟨⟨dq, osq⟩, hw''⟩ := hw'
        subst hw''
        have hx := below_regrown wr dq osq
        have HB5 := hide (below_call (unhide HB) hx)
        have HV5 := hide ((unhide HV).kept (unhide HV).lt hx)
        generalize grow (redrawn wr dq) osq = W5 at hx HB5 HV5 ⊢
        clear hx ri HB HV
        go_wp2_with fail
        go_roundw
        case rel => exact ⟨i + 1, by omega, by go_num, HF2, HV5, HB5⟩
        case measure => simp [intOf] <;> omega
      have hx0' : (x == 0) = false := by simp [hx0]
      have hx1' : (x != 0) = true := by simp [hx0]
      obtain ⟨hsm, hwd⟩ := hds hx0
      rw [decide_eq_false hx0, Bool.false_or] at HSTi HNOi
      have cAx := hide (fun (W : World) hW => unhide cA W x hW)
      rcases unhide HD with h | ⟨bb, bo, rfl, hbb, hbc⟩
      · omega
      have hsp := (hbc i hik).kept hbb (unhide HB)
      clear hbc
      generalize vA S i = sv at *
      generalize atV L n x = q at *
      have cP := hide (fun W => l03Apply_small t1 t2 t3 t4 q W (unhide HT) hsm)
      have cQ := hide (fun W => l02Same_within (apD t1 t2 t3 t4 q) sv W (apD_within (unhide HT) hsm) (wide_million hwd))
      clear hds hsm hwd
      generalize sameD sv (apD t1 t2 t3 t4 q) = sm at *
      generalize apD t1 t2 t3 t4 q = r at *
      obtain ⟨q1, q2, q3⟩ := q
      obtain ⟨r1, r2, r3⟩ := r
      obtain ⟨v1, v2, v3⟩ := sv
      unfold vecV at cAx
      simp only at cAx cP cQ
      obtain ⟨c0, c1, c2⟩ := hsp
      simp only at c0 c1 c2
      obtain ⟨y0, y1, y2, y3⟩ := unhide HV
      have ri := cell_regrown ci
      have rc0 := cell_regrown c0
      have rc1 := cell_regrown c1
      have rc2 := cell_regrown c2
      have ry0 := cell_regrown y0
      have ry1 := cell_regrown y1
      have ry2 := cell_regrown y2
      have ry3 := cell_regrown y3
      clear ci c0 c1 c2 y0 y1 y2 y3
      have HS1 := hide ((unhide HS).kept (unhide HB))
      go_wp2_with fail
      refine wp_region_quiet_below (by kernel_rfl) (by kernel_rfl) ?_
      repeat (go_big_quiet_step (first | (with_reducible exact Calls.regrown_of (unhide cAx _ ((unhide HS1).kept (below_regrown _ _ _)))) | (with_reducible exact Calls.regrown_of (unhide cP _)) | (with_reducible exact Calls.regrown_of (unhide cQ _))))
      refine wpQuiet_nil ?_
      intro _ hw'
      obtain ⟨⟨dq, osq⟩, hw''⟩ := hw'
      subst hw''
      have hx := below_regrown wr dq osq
      have HB5 := hide (below_call (unhide HB) hx)
      have HV5 := hide ((unhide HV).kept (unhide HV).lt hx)
      generalize grow (redrawn wr dq) osq = W5 at hx HB5 HV5 ⊢
      clear hx ri rc0 rc1 rc2 ry0 ry1 ry2 ry3 cAx cP cQ HB HV HS1
      cases sm
      · have HN := hide (unhide HNOi rfl)
        go_wp2_with fail
        go_ret
        exact ⟨by rw [unhide HN]; rfl, unhide HB5⟩
      · have HF2 := hide (unhide HSTi rfl)
        go_wp2_with fail
        go_roundw
        case rel => exact ⟨i + 1, by omega, by go_num, HF2, HV5, HB5⟩
        case measure => simp [intOf] <;> omega
    · have hik' : i = k := by omega
      subst hik'
      have HY := hide (unhide HYE (unhide HF))
      go_wp2_with fail
      go_ret
      exact ⟨by rw [unhide HY]; rfl, unhide HB⟩
def cntF (ids : List Int) : Nat → Nat
  | 0 => 0
  | k + 1 => cntF ids k + if ids.getD k 0 ≠ 0 then 1 else 0
theorem cntF_eq (L : List St) (S : List D3) (ids : List Int) : ∀ k, cntF ids k = (sightsTo L S ids k).length
  | 0 => rfl
  | k + 1 => by
    have ih := cntF_eq L S ids k
    show cntF ids k + (if ids.getD k 0 ≠ 0 then 1 else 0) = _
    rw [sights_count, ih]
theorem cntF_le (ids : List Int) : ∀ k, cntF ids k ≤ k
  | 0 => Nat.le_refl _
  | k + 1 => by
    have ih := cntF_le ids k
    show cntF ids k + (if ids.getD k 0 ≠ 0 then 1 else 0) ≤ k + 1
    split <;> omega
set_option maxHeartbeats 4000000 in
set_option maxRecDepth 100000 in
theorem l06For_any (L : List St) (S : List D3) (ids : List Int) (ar br ir : Option Addr) (cr dr er : Nat) (w : World) (hN : namedB L S ids = true) (hS : Stars w ar L L.length) (hD : Dirs w br S S.length) (hI : Nums w ir ids ids.length) :
    Calls Tryz.prog 45 #[.slice ar L.length cr, .slice br S.length dr, .slice ir ids.length er] w fun e w' => e = .returned (outV (if (sightsTo L S ids ids.length).length < 2 then ((0, 0, 0, 0), 10) else firstT (sightsTo L S ids ids.length) (turnsTo 625))) ∧ Below w.heap.size w w' := by
  obtain ⟨g1, g2, g3, _⟩ := named_parts hN
  have hm6 := (spots_ok g2).1
  have hn12 := (sky_ok g1).1
  have cU : Hid (∀ (t : T4) (W : World), rightT t.1 t.2.1 t.2.2.1 t.2.2.2 = true → Stars W ar L L.length → Dirs W br S ids.length → Nums W ir ids ids.length → Calls Tryz.prog 69 #[.slice ar L.length cr, .slice br ids.length dr, .slice ir ids.length er, .agg #[.int .i64 t.1, .int .i64 t.2.1, .int .i64 t.2.2.1, .int .i64 t.2.2.2]] W fun e w' => e = .returned (.bool (explB (sightsTo L S ids ids.length) t)) ∧ Below W.heap.size W w') := hide (fun t W ht h1 h2 h3 => by
    rw [← turned_eq]
    exact l06Turned_any L S ids t ids.length ar br ir cr dr er W (by omega) hn12 ht h1 h2 h3 (fun i hi h0 => named_each hN hi h0))
  have HCE := hide (cntF_eq L S ids ids.length)
  have cT : Hid (∀ W : World, Calls Tryz.prog 68 #[] W fun e w' => ∃ g c, e = .returned (.slice (some ⟨g, 0, none⟩) (turnsTo 625).length c) ∧ Turn4s w' g (turnsTo 625) ∧ Below W.heap.size W w') := hide (fun W => (specTurns_any W).mono fun e w' h => by
    obtain ⟨⟨v, he, ho⟩, hb⟩ := h
    obtain ⟨g, c, rfl, hg, ht⟩ := turn4s_of ho turns_some
    exact ⟨g, c, he, ht, hb⟩)
  have HTR : Hid (∀ k, k < (turnsTo 625).length → rightT (tA (turnsTo 625) k).1 (tA (turnsTo 625) k).2.1 (tA (turnsTo 625) k).2.2.1 (tA (turnsTo 625) k).2.2.2 = true) := hide (fun k hk => turns_right hk)
  have hTL := turns_len 625
  have HS := hide hS
  have HD := hide hD
  clear hS hD hN g1 g2
  rw [← g3] at HD hm6
  rw [← g3]
  clear g3
  generalize sightsTo L S ids ids.length = A at *
  have HF1 : Hid (∀ k, k < (turnsTo 625).length → (∀ j, j < k → explB A (tA (turnsTo 625) j) = false) → explB A (tA (turnsTo 625) k) = true → firstT A (turnsTo 625) = (tA (turnsTo 625) k, 0)) := hide (fun k hk h h1 => first_at hk h h1)
  have HF2 : Hid ((∀ j, j < (turnsTo 625).length → explB A (tA (turnsTo 625) j) = false) → firstT A (turnsTo 625) = ((0, 0, 0, 0), 6)) := hide first_none
  generalize turnsTo 625 = T at *
  generalize hlt : T.length = tn at *
  have HTL := hide hlt
  clear hlt
  generalize L.length = n at *
  generalize A.length = al at *
  obtain ⟨RV, hRV⟩ : ∃ r, r = (if al < 2 then ((0, 0, 0, 0), 10) else firstT A T) := ⟨_, rfl⟩
  rw [← hRV]
  have HRA : Hid (al < 2 → RV = ((0, 0, 0, 0), 10)) := hide (fun h => by rw [hRV, if_pos h])
  have HRB : Hid (¬ al < 2 → RV = firstT A T) := hide (fun h => by rw [hRV, if_neg h])
  clear hRV
  have HI := hide hI
  clear hI
  generalize ids.length = k at *
  have R0 := hide (blk_new w [.int .i64 0, .int .i64 0, .int .i64 0, .int .i64 0, .int .i64 0] 82)
  have B0 := hide (below1 w (.cells #[.int .i64 0, .int .i64 0, .int .i64 0, .int .i64 0, .int .i64 0] 82))
  go_enter Tryz.func45, Tryz.ntmps45
  go_wp2_with fail
  generalize w.alloc (.cells #[.int .i64 0, .int .i64 0, .int .i64 0, .int .i64 0, .int .i64 0] 82) = W0 at R0 B0 ⊢
  go_loopw [7, 8] (fun c kk wr => ∃ i : Nat, i ≤ k ∧ kk = .int .i64 i ∧ c = .int .i64 (cntF ids i : Int) ∧ wr = W0) (fun _ kk _ => k - (intOf kk).toNat)
  case atStart => exact ⟨0, by omega, rfl, rfl, rfl⟩
  case round =>
    obtain ⟨i, hi, rfl, rfl, rfl⟩ := hrel
    by_cases hik : i < k
    · have hik2 : (i : Int) < (k : Int) := by omega
      rcases unhide HI with h | ⟨ib, io, rfl, hib, hic⟩
      · omega
      have ci : wr.cell? ⟨ib, io + i, none⟩ = some (.int .i64 (ids.getD i 0)) := by rw [(unhide B0).cell (p := ⟨ib, io + i, none⟩) hib]; exact hic i hik
      clear hic
      have HCN : Hid (cntF ids (i + 1) = cntF ids i + if ids.getD i 0 ≠ 0 then 1 else 0) := hide rfl
      have hcl := cntF_le ids i
      generalize ids.getD i 0 = x at *
      generalize hci : cntF ids i = ct at *
      clear hci
      by_cases hx0 : x = 0
      · subst hx0
        rw [if_neg (by simp)] at HCN
        go_wp2_with fail
        go_roundw
        case rel => exact ⟨i + 1, by omega, by go_num, by rw [unhide HCN]; rfl, by first | rfl | trivial⟩
        case measure => simp [intOf] <;> omega
      · have hx0' : (x == 0) = false := by simp [hx0]
        rw [if_pos hx0] at HCN
        go_wp2_with fail
        go_roundw
        case rel => exact ⟨i + 1, by omega, by go_num, by rw [unhide HCN]; go_num, by first | rfl | trivial⟩
        case measure => simp [intOf] <;> omega
    · have hik' : i = k := by omega
      subst hik'
      rw [unhide HCE]
      clear HCE
      by_cases h2 : al < 2
      · have h2' : (al : Int) < 2 := by omega
        have HRV := hide (unhide HRA h2)
        have r0 := (unhide R0).cell 0 _ rfl
        have r1 := (unhide R0).cell 1 _ rfl
        have r2 := (unhide R0).cell 2 _ rfl
        have r3 := (unhide R0).cell 3 _ rfl
        have r4 := (unhide R0).cell 4 _ rfl
        have f0 := (unhide R0).free 0
        have f1 := (unhide R0).free 1
        have f2 := (unhide R0).free 2
        have f3 := (unhide R0).free 3
        have f4 := (unhide R0).free 4
        go_wp2_with fail
        exact bodyPost_ret (v := .agg #[.int .i64 0, .int .i64 0, .int .i64 0, .int .i64 0, .int .i64 10]) (by simp [results, Tryz.results45, go_sem, r0, r1, r2, r3, r4]) rfl ⟨by rw [unhide HRV]; rfl, below_set5' (unhide B0) (Nat.le_refl _) _ _ _ _ _⟩
      have h2' : ¬ (al : Int) < 2 := by omega
      have HR := hide (unhide HRB h2)
      clear HRA HRB h2
      go_wp2_with fail
      refine (unhide cT _).mono ?_
      rintro e W3 ⟨g, c3, rfl, ht, hx⟩
      have HT3 := hide ht
      have HR3 := hide ((unhide R0).kept hx)
      have HB3 := hide (below_call (unhide B0) hx)
      clear ht hx R0 B0 cT
      go_wp2_with fail
      go_loopw [10] (fun kk wr => ∃ j : Nat, j ≤ tn ∧ kk = .int .i64 j ∧ Hid (∀ l, l < j → explB A (tA T l) = false) ∧ Hid (Turn4s wr g T) ∧ Hid (Blk wr w.heap.size [.int .i64 0, .int .i64 0, .int .i64 0, .int .i64 0, .int .i64 0] 82) ∧ Hid (Below w.heap.size w wr)) (fun kk _ => tn - (intOf kk).toNat)
      case atStart => exact ⟨0, by omega, rfl, hide (fun j hj => absurd hj (Nat.not_lt_zero _)), HT3, HR3, HB3⟩
      case round =>
        clear HT3 HR3 HB3
        obtain ⟨j, hj, rfl, HF, HT, HRB, HB⟩ := hrel
        by_cases hjn : j < tn
        · have hjn2 : (j : Int) < (tn : Int) := by omega
          obtain ⟨c0, c1, c2', c3'⟩ := (unhide HT).2 j (by rw [unhide HTL]; exact hjn)
          have htr := unhide HTR j hjn
          have HF1j := hide (unhide HF1 j hjn (unhide HF))
          obtain ⟨t, ht⟩ : ∃ t, tA T j = t := ⟨_, rfl⟩
          rw [ht] at c0 c1 c2' c3' htr HF1j
          have HTE := hide ht
          clear ht
          have cEt := hide (fun W h1 h2 h3 => unhide cU t W htr h1 h2 h3)
          clear htr
          have HEX : Hid (explB A (tA T j) = explB A t) := hide (by rw [unhide HTE])
          generalize explB A t = ev at *
          obtain ⟨t1, t2, t3, t4⟩ := t
          simp only at c0 c1 c2' c3' cEt
          go_wp2_with fail
          refine (unhide cEt _ ((unhide HS).kept (unhide HB)) ((unhide HD).kept (unhide HB)) ((unhide HI).kept (unhide HB))).mono ?_
          rintro e W5 ⟨rfl, hx⟩
          have HT2 := hide ((unhide HT).kept hx)
          have HR2 := hide ((unhide HRB).kept hx)
          have HB2 := hide (below_call (unhide HB) hx)
          have x0 := cellKept c0 hx
          have x1 := cellKept c1 hx
          have x2 := cellKept c2' hx
          have x3 := cellKept c3' hx
          clear hx HT HRB HB cEt c0 c1 c2' c3'
          cases ev
          · clear x0 x1 x2 x3
            go_wp2_with fail
            go_roundw
            case rel => exact ⟨j + 1, by omega, by go_num, hide (fun l hl => by
              by_cases e : l = j
              · rw [e]; exact unhide HEX
              · exact unhide HF l (by omega)), HT2, HR2, HB2⟩
            case measure => simp [intOf]; omega
          · have HRV : Hid (RV = ((t1, t2, t3, t4), 0)) := hide (by rw [unhide HR]; exact unhide HF1j rfl)
            have r0 := (unhide HR2).cell 0 _ rfl
            have r1 := (unhide HR2).cell 1 _ rfl
            have r2 := (unhide HR2).cell 2 _ rfl
            have r3 := (unhide HR2).cell 3 _ rfl
            have r4 := (unhide HR2).cell 4 _ rfl
            have f0 := (unhide HR2).free 0
            have f1 := (unhide HR2).free 1
            have f2 := (unhide HR2).free 2
            have f3 := (unhide HR2).free 3
            have f4 := (unhide HR2).free 4
            go_wp2_with fail
            exact bodyPost_ret (v := .agg #[.int .i64 t1, .int .i64 t2, .int .i64 t3, .int .i64 t4, .int .i64 0]) (by simp [results, Tryz.results45, go_sem, r0, r1, r2, r3, r4]) rfl ⟨by rw [unhide HRV]; rfl, below_set5' (unhide HB2) (Nat.le_refl _) _ _ _ _ _⟩
        · have hjn' : j = tn := by omega
          subst hjn'
          have HRV : Hid (RV = ((0, 0, 0, 0), 6)) := hide (by rw [unhide HR]; exact unhide HF2 (unhide HF))
          have r0 := (unhide HRB).cell 0 _ rfl
          have r1 := (unhide HRB).cell 1 _ rfl
          have r2 := (unhide HRB).cell 2 _ rfl
          have r3 := (unhide HRB).cell 3 _ rfl
          have r4 := (unhide HRB).cell 4 _ rfl
          have f0 := (unhide HRB).free 0
          have f1 := (unhide HRB).free 1
          have f2 := (unhide HRB).free 2
          have f3 := (unhide HRB).free 3
          have f4 := (unhide HRB).free 4
          go_wp2_with fail
          exact bodyPost_ret (v := .agg #[.int .i64 0, .int .i64 0, .int .i64 0, .int .i64 0, .int .i64 6]) (by simp [results, Tryz.results45, go_sem, r0, r1, r2, r3, r4]) rfl ⟨by rw [unhide HRV]; rfl, below_set5' (unhide HB) (Nat.le_refl _) _ _ _ _ _⟩
end Go.Proofs.YtjdehbpgdplolaaGreatDoor

namespace Go.Proofs.YtjdehbpgdplolaaGreatDoor
open Go.RowKit Go.Sort
set_option linter.unusedVariables false

set_option maxRecDepth 100000 in
theorem eqTurn7 (x y z u : Int) (w : World) :
    Calls Tryz.prog 31 #[.agg #[.int .i64 x, .int .i64 y, .int .i64 z, .int .i64 u], .agg #[.int .i64 x, .int .i64 y, .int .i64 z, .int .i64 u]] w fun e w' => e = .returned (.bool true) ∧ Below w.heap.size w w' := by
  go_enter Tryz.func31, Tryz.ntmps31
  go_wp2
  go_ret
  exact ⟨rfl, below2 _ _ _⟩
end Go.Proofs.YtjdehbpgdplolaaGreatDoor

namespace Go.Proofs.YtjdehbpgdplolaaGreatDoor
open Go.RowKit Go.Sort
set_option linter.unusedVariables false
set_option linter.unusedSimpArgs false

def turnOfV (L : List St) (S : List D3) : T4 × Int := if identK L S = 0 then forV L S (identL L S) else ((0, 0, 0, 0), identK L S)
/-- a right tracker behind a look at right spots -/
def lookR (t : Tk) (S : List D3) : Tk :=
  if t.mode ≠ 0 ∧ 2 ≤ cntN (matchL t.L t.A t.B t.C t.D S) then trackT { t with fr := t.fr + 1 } t.A t.B t.C t.D
  else if (turnOfV t.L S).2 = 0 then trackT { t with fr := t.fr + 1 } (turnOfV t.L S).1.1 (turnOfV t.L S).1.2.1 (turnOfV t.L S).1.2.2.1 (turnOfV t.L S).1.2.2.2
  else unseenT { t with fr := t.fr + 1 }
theorem prow_nums {w : World} {lo hi n : Nat} {v : Value} {ids : List Int} (hl : ids.length = n) (h : PRow w 2 1 lo hi n v (fun j => .int .i64 (ids.getD j 0))) : ∃ a k, v = .slice a n k ∧ Nums w a ids n := by
  rcases h with ⟨rfl, a, k, rfl⟩ | ⟨g, k, rfl, _, _, hr⟩
  · exact ⟨a, k, rfl, .inl rfl⟩
  · exact ⟨_, k, rfl, nums_of hr⟩
set_option maxHeartbeats 2000000 in
set_option maxRecDepth 100000 in
theorem countAt_any (L : List St) (S : List D3) (ar br : Option Addr) (cr dr : Nat) (a b c d : Int) (p : Addr) (w : World) (hn : L.length ≤ 1048576) (hcap : L.length ≤ cr) (hc9 : cr ≤ 9223372036854775807) (hn2 : S.length ≤ 1048576) (hcap2 : S.length ≤ dr) (hd9 : dr ≤ 9223372036854775807) (hS : Stars w ar L L.length) (hD : Dirs w br S S.length) (hE : ErrSky p w) :
    Calls Tryz.prog 52 #[.agg #[.slice ar L.length cr], .agg #[.int .i64 a, .int .i64 b, .int .i64 c, .int .i64 d], .slice br S.length dr] w fun e w' => e = .returned (.int .i64 (cntN (matchL L a b c d S) : Int)) ∧ Below w.heap.size w w' := by
  have B0 := hide (below2 w (.cells #[.slice ar L.length cr] 58) (.cells #[.int .i64 a, .int .i64 b, .int .i64 c, .int .i64 d] 31))
  have cM := hide (implMatchAt_any L S ar br cr dr a b c d p _ hn hcap hc9 hn2 hcap2 hd9 (hS.kept (unhide B0)) (hD.kept (unhide B0)) (hE.kept (unhide B0)))
  have hl := match_len L a b c d S
  have HN := hide (fun (W : World) (x : Option Addr) (k : Nat) h => countNamed_any (matchL L a b c d S) x k W (by omega) h)
  clear hS hD hE
  go_enter Tryz.func52, Tryz.ntmps52
  go_wp2_with fail
  refine (unhide cM).mono ?_
  rintro e w1 ⟨⟨v, rfl, hp⟩, hx⟩
  obtain ⟨x, k, rfl, hv⟩ := prow_nums rfl hp
  have B1 := hide (below_call (unhide B0) hx)
  have cN := hide (unhide HN w1 x k hv)
  generalize (matchL L a b c d S).length = m at *
  clear hx hp hv B0 cM HN
  go_wp2_with fail
  refine (unhide cN).mono ?_
  rintro e w2 ⟨rfl, hw⟩
  rw [hw]
  clear hw w2
  go_wp2_with fail
  go_ret
  exact ⟨rfl, unhide B1⟩
theorem outP_nums {w' : World} {B : Nat} {ids : List Int} {cnt code : Int} {e : Ending} (h : OutP w' B ids cnt code e) : ∃ a k, e = .returned (.agg #[.slice a ids.length k, .int .i64 cnt, .int .i64 code]) ∧ Nums w' a ids ids.length := by
  obtain ⟨v, he, h⟩ := h
  rcases h with ⟨h0, rfl⟩ | ⟨g, rfl, _, hr⟩
  · exact ⟨none, 0, by rw [he, h0]; rfl, .inl (by rw [h0]; rfl)⟩
  · exact ⟨_, _, he, nums_of hr⟩
theorem outI_nums {w' : World} {B : Nat} {ids : List Int} {cnt code : Int} {e : Ending} (h : OutI w' B ids cnt code e) : ∃ a k, e = .returned (.agg #[.slice a ids.length k, .int .i64 cnt, .int .i64 code]) ∧ Nums w' a ids ids.length := by
  obtain ⟨a, k, he, hp⟩ := prow_outI h
  obtain ⟨x, y, hv, hN⟩ := prow_nums (ids := ids) rfl (show PRow w' 2 1 B w'.heap.size ids.length (.slice a ids.length k) (fun j => .int .i64 (ids.getD j 0)) from hp)
  rw [hv] at he
  exact ⟨x, y, he, hN⟩
theorem res_turnOf (T : Array Value) (X : World) (b : Nat) (p q r s k : Int) (hT : T.getD 4 undef = .pointer (some ⟨b, 0, none⟩)) (h : Blk X b [.int .i64 p, .int .i64 q, .int .i64 r, .int .i64 s, .int .i64 k] 82) : (results Tryz.f54 T).run Tryz.prog X = .ok (.agg #[.int .i64 p, .int .i64 q, .int .i64 r, .int .i64 s, .int .i64 k]) X := by
  have h0 := h.cell 0 _ rfl
  have h1 := h.cell 1 _ rfl
  have h2 := h.cell 2 _ rfl
  have h3 := h.cell 3 _ rfl
  have h4 := h.cell 4 _ rfl
  simp only [Array.getD_eq_getD_getElem?] at hT
  simp [results, Tryz.results54, go_sem, hT, h0, h1, h2, h3, h4]
set_option maxHeartbeats 4000000 in
set_option maxRecDepth 100000 in
theorem turnOfS_any (L : List St) (S : List D3) (ar br : Option Addr) (cr dr : Nat) (p : Addr) (w : World) (hn : L.length ≤ 1048576) (hcap : L.length ≤ cr) (hc9 : cr ≤ 9223372036854775807) (hn2 : S.length ≤ 1048576) (hcap2 : S.length ≤ dr) (hd9 : dr ≤ 9223372036854775807) (hS : Stars w ar L L.length) (hD : Dirs w br S S.length) (hA : ∀ y, ar = some y → y.block < w.heap.size) (hB : ∀ y, br = some y → y.block < w.heap.size) (hE : ErrSky p w) :
    Calls Tryz.prog 54 #[.agg #[.slice ar L.length cr], .slice br S.length dr] w fun e w' => e = .returned (.agg #[.int .i64 (turnOfV L S).1.1, .int .i64 (turnOfV L S).1.2.1, .int .i64 (turnOfV L S).1.2.2.1, .int .i64 (turnOfV L S).1.2.2.2, .int .i64 (turnOfV L S).2]) ∧ Below w.heap.size w w' := by
  have B0 := hide (below2 w (.cells #[.slice ar L.length cr] 58) (.cells #[.int .i64 0, .int .i64 0, .int .i64 0, .int .i64 0, .int .i64 0] 82))
  have A0 := hide ((blk_new w [.slice ar L.length cr] 58).alloc (.cells #[.int .i64 0, .int .i64 0, .int .i64 0, .int .i64 0, .int .i64 0] 82))
  have R0 := hide (by simpa using blk_new (w.alloc (.cells #[.slice ar L.length cr] 58)) [.int .i64 0, .int .i64 0, .int .i64 0, .int .i64 0, .int .i64 0] 82 : Blk ((w.alloc (.cells #[.slice ar L.length cr] 58)).alloc (.cells #[.int .i64 0, .int .i64 0, .int .i64 0, .int .i64 0, .int .i64 0] 82)) (w.heap.size + 1) [.int .i64 0, .int .i64 0, .int .i64 0, .int .i64 0, .int .i64 0] 82)
  have hl0 := (unhide B0).size
  have cI := hide (identify_any L S ar br cr dr p _ hn hn2 hcap hc9 hcap2 hd9 (hS.kept (unhide B0)) (hD.kept (unhide B0)) (fun y e => Nat.lt_of_lt_of_le (hA y e) hl0) (fun y e => Nat.lt_of_lt_of_le (hB y e) hl0) (hE.kept (unhide B0)))
  have hid := identL_len L S
  have cF := hide (fun (W : World) (x : Option Addr) (k : Nat) (h : Below w.heap.size w W) hN => implTurnFor_any L S (identL L S) ar br x cr dr k p W hn hcap hc9 hn2 hcap2 hd9 (by omega) (hS.kept h) (hD.kept h) hN (hE.kept h))
  have hY : identK L S = 0 → Hid (turnOfV L S = forV L S (identL L S)) := fun h => hide (by unfold turnOfV; rw [if_pos h])
  have hN : identK L S ≠ 0 → Hid (turnOfV L S = ((0, 0, 0, 0), identK L S)) := fun h => hide (by unfold turnOfV; rw [if_neg h])
  clear hS hD hE hl0 hA hB
  go_enter Tryz.func54, Tryz.ntmps54
  go_wp2_with fail
  refine (unhide cI).mono ?_
  rintro e w1 ⟨hO, hx⟩
  obtain ⟨x, k, rfl, hv⟩ := outP_nums hO
  generalize identK L S = kd at *
  generalize identC L S = ct at *
  have Z := below1 w1 (.cells #[.slice x (identL L S).length k, .int .i64 ct, .int .i64 kd] 79)
  have B1 := hide (below_call (below_call (unhide B0) hx) Z)
  have A1 := hide (((unhide A0).kept hx).kept Z)
  have R1 := hide (((unhide R0).kept hx).kept Z)
  have I1 := hide (blk_new w1 [.slice x (identL L S).length k, .int .i64 ct, .int .i64 kd] 79)
  have N1 := hide (hv.kept Z)
  clear hx hO hv Z B0 A0 R0 cI
  by_cases h0 : kd = 0
  · have HO := hY h0
    clear hY hN
    have cF2 := hide (unhide cF _ x k (unhide B1) (unhide N1))
    rw [← unhide HO] at cF2
    clear cF N1 HO
    obtain ⟨⟨⟨t1, t2, t3, t4⟩, tc⟩, htv⟩ : ∃ z, turnOfV L S = z := ⟨_, rfl⟩
    rw [htv] at cF2
    have HTV := hide htv
    clear htv
    have cF3 : Hid (Calls Tryz.prog 80 #[.slice ar L.length cr, .slice br S.length dr, .slice x (identL L S).length k] (w1.alloc (.cells #[.slice x (identL L S).length k, .int .i64 ct, .int .i64 kd] 79)) fun e w' => e = .returned (.agg #[.int .i64 t1, .int .i64 t2, .int .i64 t3, .int .i64 t4, .int .i64 tc]) ∧ Below (w1.alloc (.cells #[.slice x (identL L S).length k, .int .i64 ct, .int .i64 kd] 79)).heap.size (w1.alloc (.cells #[.slice x (identL L S).length k, .int .i64 ct, .int .i64 kd] 79)) w') := cF2
    clear cF2
    generalize (identL L S).length = nI at *
    have a0 := (unhide A1).cell 0 _ rfl
    have i0 := (unhide I1).cell 0 _ rfl
    have i1 := (unhide I1).cell 1 _ rfl
    have i2 := (unhide I1).cell 2 _ rfl
    subst h0
    go_wp2_with fail
    clear a0 i0 i1 i2
    refine (unhide cF3).mono ?_
    rintro e w2 ⟨rfl, hx⟩
    have B2 := hide (below_call (unhide B1) hx)
    have R2 := hide ((unhide R1).kept hx)
    clear hx
    have r0 := (unhide R2).cell 0 _ rfl
    have r1 := (unhide R2).cell 1 _ rfl
    have r2 := (unhide R2).cell 2 _ rfl
    have r3 := (unhide R2).cell 3 _ rfl
    have r4 := (unhide R2).cell 4 _ rfl
    have g0 := (unhide R2).free 0
    have g1 := (unhide R2).free 1
    have g2 := (unhide R2).free 2
    have g3 := (unhide R2).free 3
    have g4 := (unhide R2).free 4
    go_wp2_with fail
    clear r0 r1 r2 r3 r4 g0 g1 g2 g3 g4
    rw [unhide HTV]
    refine bodyPost_ret (v := .agg #[.int .i64 t1, .int .i64 t2, .int .i64 t3, .int .i64 t4, .int .i64 tc]) ?_ rfl ⟨rfl, ?_⟩
    · exact res_turnOf _ _ (w.heap.size + 1) _ _ _ _ _ rfl ((((((unhide R2).set 0 _).set 1 _).set 2 _).set 3 _).set 4 _)
    · iterate 5 (refine belowSet ?_ (show w.heap.size ≤ w.heap.size + 1 by omega) _ _)
      exact unhide B2
  · have HO := hN h0
    clear hY hN cF
    generalize (identL L S).length = nI at *
    have i0 := (unhide I1).cell 0 _ rfl
    have i1 := (unhide I1).cell 1 _ rfl
    have i2 := (unhide I1).cell 2 _ rfl
    have r0 := (unhide R1).cell 0 _ rfl
    have r1 := (unhide R1).cell 1 _ rfl
    have r2 := (unhide R1).cell 2 _ rfl
    have r3 := (unhide R1).cell 3 _ rfl
    have r4 := (unhide R1).cell 4 _ rfl
    have g0 := (unhide R1).free 0
    have g1 := (unhide R1).free 1
    have g2 := (unhide R1).free 2
    have g3 := (unhide R1).free 3
    have g4 := (unhide R1).free 4
    go_wp2_with fail
    clear r0 r1 r2 r3 r4 g0 g1 g2 g3 g4 i0 i1 i2
    rw [unhide HO]
    refine bodyPost_ret (v := .agg #[.int .i64 0, .int .i64 0, .int .i64 0, .int .i64 0, .int .i64 kd]) ?_ rfl ⟨rfl, ?_⟩
    · exact res_turnOf _ _ (w.heap.size + 1) _ _ _ _ _ rfl ((((((unhide R1).set 0 _).set 1 _).set 2 _).set 3 _).set 4 _)
    · iterate 5 (refine belowSet ?_ (show w.heap.size ≤ w.heap.size + 1 by omega) _ _)
      exact unhide B1
theorem res_lookedAt (T : Array Value) (X : World) (b : Nat) (v : Value) (lim mode A B C D coast fr : Int) (hT : T.getD 4 undef = .pointer (some ⟨b, 0, none⟩)) (h : TkAt X b v lim mode A B C D coast fr) : (results Tryz.f28 T).run Tryz.prog X = .ok (.agg #[v, .int .i64 lim, .int .i64 mode, .int .i64 A, .int .i64 B, .int .i64 C, .int .i64 D, .int .i64 coast, .int .i64 fr]) X := by
  obtain ⟨h0, h1, h2, h3, h4, h5, h6, h7, h8⟩ := h
  simp only [Array.getD_eq_getD_getElem?] at hT
  simp [results, Tryz.results28, go_sem, hT, h0, h1, h2, h3, h4, h5, h6, h7, h8]
theorem res_ilook (T : Array Value) (X : World) (b : Nat) (v : Value) (lim mode A B C D coast fr code : Int) (hT : T.getD 4 undef = .pointer (some ⟨b, 0, none⟩)) (h : TkO X b v lim mode A B C D coast fr code) : (results Tryz.f9 T).run Tryz.prog X = .ok (.agg #[v, .int .i64 lim, .int .i64 mode, .int .i64 A, .int .i64 B, .int .i64 C, .int .i64 D, .int .i64 coast, .int .i64 fr, .int .i64 code]) X := by
  obtain ⟨⟨h0, h1, h2, h3, h4, h5, h6, h7, h8⟩, h9⟩ := h
  simp only [Array.getD_eq_getD_getElem?] at hT
  simp [results, Tryz.results9, go_sem, hT, h0, h1, h2, h3, h4, h5, h6, h7, h8, h9]

end Go.Proofs.YtjdehbpgdplolaaGreatDoor
