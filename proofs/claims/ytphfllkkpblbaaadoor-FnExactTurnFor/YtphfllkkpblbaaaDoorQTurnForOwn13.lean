/- Several texts in one: TsB, TfB, TfC. -/
import Derived.Test.YtphfllkkpblbaaaDoorQTurnForOwn7
import Derived.Test.YtphfllkkpblbaaaDoorQTurnForOwn11
import Derived.Test.YtphfllkkpblbaaaDoorQTurnForOwn12
import Derived.Test.YtphfllkkpblbaaaDoorQTurnForOwn9
namespace Go.Proofs.YtphfllkkpblbaaaDoor
open Go.RowKit Go.Sort
set_option linter.unusedVariables false

set_option maxHeartbeats 4000000 in
set_option maxRecDepth 100000 in
theorem specTurns_any (w : World) :
    Calls Tryd.prog 48 #[] w fun e w' => (∃ v, e = .returned v ∧ w'.ownsRow w.heap.size 38 4 v (turnsTo 625).length (flatT (turnsTo 625))) ∧ Below w.heap.size w w' := by
  obtain ⟨i0, hinf, hz0, hz1, hz2⟩ := info_parts info_turn
  have hm8 : 1000 ≤ maxLen := by decide +kernel
  have HO0 := hide (ownT_none w w.heap.size (Nat.le_refl _))
  have HB0 := hide (below1 w (.cells #[] 38))
  go_enter Tryd.func48, Tryd.ntmps48
  go_wp2_with fail
  generalize w.alloc (.cells #[] 38) = W0 at HO0 HB0 ⊢
  go_loopw [1, 2] (fun v kk wr => ∃ i : Nat, i ≤ 5 ∧ kk = .int .i64 ((i : Int) - 2) ∧ Hid (wr.ownsRow w.heap.size 38 4 v (turnsTo (i * 125)).length (flatT (turnsTo (i * 125)))) ∧ Hid (Below w.heap.size w wr)) (fun _ kk _ => (3 - intOf kk).toNat)
  case atStart => exact ⟨0, by omega, rfl, HO0, HB0⟩
  case round =>
    clear HO0 HB0
    obtain ⟨i, hi, rfl, HO1, HB1⟩ := hrel
    by_cases hi5 : i < 5
    · have hi2 : (i : Int) - 2 ≤ 2 := by omega
      go_wp2_with fail
      go_loopw [1, 3] (fun v kk wr => ∃ j : Nat, j ≤ 5 ∧ kk = .int .i64 ((j : Int) - 2) ∧ Hid (wr.ownsRow w.heap.size 38 4 v (turnsTo (i * 125 + j * 25)).length (flatT (turnsTo (i * 125 + j * 25)))) ∧ Hid (Below w.heap.size w wr)) (fun _ kk _ => (3 - intOf kk).toNat)
      case atStart => exact ⟨0, by omega, rfl, hide (by have h := unhide HO1; simpa using h), HB1⟩
      case round =>
        clear HO1 HB1
        obtain ⟨j, hj, rfl, HO2, HB2⟩ := hrel
        by_cases hj5 : j < 5
        · have hj2 : (j : Int) - 2 ≤ 2 := by omega
          go_wp2_with fail
          go_loopw [1, 4] (fun v kk wr => ∃ l : Nat, l ≤ 5 ∧ kk = .int .i64 ((l : Int) - 2) ∧ Hid (wr.ownsRow w.heap.size 38 4 v (turnsTo (i * 125 + j * 25 + l * 5)).length (flatT (turnsTo (i * 125 + j * 25 + l * 5)))) ∧ Hid (Below w.heap.size w wr)) (fun _ kk _ => (3 - intOf kk).toNat)
          case atStart => exact ⟨0, by omega, rfl, hide (by have h := unhide HO2; simpa using h), HB2⟩
          case round =>
            clear HO2 HB2
            obtain ⟨l, hl, rfl, HO3, HB3⟩ := hrel
            by_cases hl5 : l < 5
            · have hl2 : (l : Int) - 2 ≤ 2 := by omega
              go_wp2_with fail
              go_loopw [1, 5] (fun v kk wr => ∃ m : Nat, m ≤ 5 ∧ kk = .int .i64 ((m : Int) - 2) ∧ Hid (wr.ownsRow w.heap.size 38 4 v (turnsTo (i * 125 + j * 25 + l * 5 + m)).length (flatT (turnsTo (i * 125 + j * 25 + l * 5 + m)))) ∧ Hid (Below w.heap.size w wr)) (fun _ kk _ => (3 - intOf kk).toNat)
              case atStart => exact ⟨0, by omega, rfl, hide (by have h := unhide HO3; simpa using h), HB3⟩
              case round =>
                clear HO3 HB3
                obtain ⟨m, hm, rfl, HO4, HB4⟩ := hrel
                by_cases hm5 : m < 5
                · have hm2 : (m : Int) - 2 ≤ 2 := by omega
                  have hta := tOf_at i j l m hj5 hl5 hm5
                  have hpl := turns_len (i * 125 + j * 25 + l * 5 + m)
                  have HSN := hide (turns_snoc (i * 125 + j * 25 + l * 5 + m))
                  rw [hta] at HSN
                  clear hta
                  generalize hke : i * 125 + j * 25 + l * 5 + m = k at *
                  have hkb : k < 625 := by omega
                  have HKE : Hid (i * 125 + j * 25 + l * 5 + (m + 1) = k + 1) := hide (by omega)
                  clear hke
                  have Z := below1 wr (.cells #[.int .i64 ((i : Int) - 2), .int .i64 ((j : Int) - 2), .int .i64 ((l : Int) - 2), .int .i64 ((m : Int) - 2)] 38)
                  have HBa := hide (below_call (unhide HB4) Z)
                  have HOa := hide (oKept (unhide HO4) Z)
                  have TA1 := turnAt_new wr ((i : Int) - 2) ((j : Int) - 2) ((l : Int) - 2) ((m : Int) - 2) 38
                  clear Z HO4 HB4
                  go_wp2_with fail
                  obtain ⟨p, hp⟩ : ∃ p, p = (i : Int) - 2 := ⟨_, rfl⟩
                  obtain ⟨q, hq⟩ : ∃ p, p = (j : Int) - 2 := ⟨_, rfl⟩
                  obtain ⟨r, hr⟩ : ∃ p, p = (l : Int) - 2 := ⟨_, rfl⟩
                  obtain ⟨s, hs⟩ : ∃ p, p = (m : Int) - 2 := ⟨_, rfl⟩
                  generalize wr.alloc (.cells #[.int .i64 ((i : Int) - 2), .int .i64 ((j : Int) - 2), .int .i64 ((l : Int) - 2), .int .i64 ((m : Int) - 2)] 38) = W1 at HBa HOa TA1 ⊢
                  refine (specTRight_any _ _ _ _ _).mono ?_
                  rintro e W2 ⟨rfl, hx⟩
                  have TA2 := TA1.kept TA1.lt hx
                  have HBb := hide (below_call (unhide HBa) hx)
                  have HOb := hide (oKept (unhide HOa) hx)
                  clear hx TA1 HBa HOa
                  rw [← hp, ← hq, ← hr, ← hs] at HSN
                  rw [← hp, ← hq, ← hr, ← hs] at TA2
                  have HG : Hid (goodT (p, q, r, s) = rightT ((i : Int) - 2) ((j : Int) - 2) ((l : Int) - 2) ((m : Int) - 2)) := hide (by rw [← hp, ← hq, ← hr, ← hs]; rfl)
                  generalize wr.heap.size = tb at *
                  cases hrt : rightT ((i : Int) - 2) ((j : Int) - 2) ((l : Int) - 2) ((m : Int) - 2)
                  · rw [hrt] at HG
                    rw [unhide HG, if_neg (by simp), List.append_nil] at HSN
                    have HO3 : Hid (W2.ownsRow w.heap.size 38 4 u1 (turnsTo (i * 125 + j * 25 + l * 5 + (m + 1))).length (flatT (turnsTo (i * 125 + j * 25 + l * 5 + (m + 1))))) := hide (by rw [unhide HKE, unhide HSN]; exact unhide HOb)
                    clear hp hq hr hs
                    go_wp2_with fail
                    go_roundw
                    case rel => exact ⟨m + 1, by omega, by go_num, HO3, HBb⟩
                    case measure => simp [intOf] <;> omega
                  · rw [hrt] at HG
                    rw [unhide HG, if_pos rfl] at HSN
                    obtain ⟨e0, e1, e2, e3⟩ := TA2
                    have Z1 := below1 W2 (.cells #[.int .i64 p, .int .i64 q, .int .i64 r, .int .i64 s] 38)
                    have hown := oKept (unhide HOb) Z1
                    have B3 := below_call (unhide HBb) Z1
                    have hsz := (unhide HBb).size
                    have HP := hide hp
                    have HQ := hide hq
                    have HR := hide hr
                    have HS := hide hs
                    clear Z1 HOb HBb hp hq hr hs
                    generalize turnsTo k = Pk at *
                    go_wp2_with (at_builtin; refine wpList_append_own _ rfl _ _ 61 rfl w.heap.size 38 i0 (.agg #[.int .i64 0, .int .i64 0, .int .i64 0, .int .i64 0]) 4 32 Tryd.underlying61 hinf hz0 hz1 hz2 rfl (by decide) _ _ _ rfl hown ⟨W2.heap.size, 0, none⟩ 1 1 (flatT [(p, q, r, s)]) rfl rfl ?d2 (fun u hu => flatT_cell hu) ?d3 ?d4 ?d5 ?_)
                    case d2 => first | exact fun j u h => h | exact new_cells _ _ _
                    case d3 => omega
                    case d4 => omega
                    case d5 => first | omega | (simp; omega)
                    intro v7 V7 hown7 hgrow7 _
                    have HB8 := hide (oBelow B3 hown hgrow7 (by simp; omega))
                    have HO8 : Hid (V7.ownsRow w.heap.size 38 4 v7 (turnsTo (i * 125 + j * 25 + l * 5 + (m + 1))).length (flatT (turnsTo (i * 125 + j * 25 + l * 5 + (m + 1))))) := hide (by rw [unhide HKE, unhide HSN, flatT_app, List.length_append]; exact hown7)
                    clear hown7 hgrow7 hown B3 e0 e1 e2 e3
                    go_wp2_with fail
                    go_roundw
                    case rel => exact ⟨m + 1, by omega, by go_num, HO8, HB8⟩
                    case measure => simp [intOf] <;> omega
                · have hm2 : ¬ (m : Int) - 2 ≤ 2 := by omega
                  have hm5' : m = 5 := by omega
                  subst hm5'
                  have HOx : Hid (wr.ownsRow w.heap.size 38 4 u1 (turnsTo (i * 125 + j * 25 + (l + 1) * 5)).length (flatT (turnsTo (i * 125 + j * 25 + (l + 1) * 5)))) := hide (by rw [show i * 125 + j * 25 + (l + 1) * 5 = i * 125 + j * 25 + l * 5 + 5 by omega]; exact unhide HO4)
                  go_wp2_with fail
                  go_roundw
                  case rel => exact ⟨l + 1, by omega, by go_num, HOx, HB4⟩
                  case measure => simp [intOf] <;> omega
            · have hl2 : ¬ (l : Int) - 2 ≤ 2 := by omega
              have hl5' : l = 5 := by omega
              subst hl5'
              have HOx : Hid (wr.ownsRow w.heap.size 38 4 u1 (turnsTo (i * 125 + (j + 1) * 25)).length (flatT (turnsTo (i * 125 + (j + 1) * 25)))) := hide (by rw [show i * 125 + (j + 1) * 25 = i * 125 + j * 25 + 5 * 5 by omega]; exact unhide HO3)
              go_wp2_with fail
              go_roundw
              case rel => exact ⟨j + 1, by omega, by go_num, HOx, HB3⟩
              case measure => simp [intOf] <;> omega
        · have hj2 : ¬ (j : Int) - 2 ≤ 2 := by omega
          have hj5' : j = 5 := by omega
          subst hj5'
          have HOx : Hid (wr.ownsRow w.heap.size 38 4 u1 (turnsTo ((i + 1) * 125)).length (flatT (turnsTo ((i + 1) * 125)))) := hide (by rw [show (i + 1) * 125 = i * 125 + 5 * 25 by omega]; exact unhide HO2)
          go_wp2_with fail
          go_roundw
          case rel => exact ⟨i + 1, by omega, by go_num, HOx, HB2⟩
          case measure => simp [intOf] <;> omega
    · have hi2 : ¬ (i : Int) - 2 ≤ 2 := by omega
      have hi5' : i = 5 := by omega
      subst hi5'
      go_wp2_with fail
      go_ret
      exact ⟨⟨_, rfl, unhide HO1⟩, unhide HB1⟩
end Go.Proofs.YtphfllkkpblbaaaDoor

namespace Go.Proofs.YtphfllkkpblbaaaDoor
open Go.RowKit Go.Sort
set_option linter.unusedVariables false

def turnedTo (L : List St) (S : List D3) (ids : List Int) (t : T4) (n : Nat) : Prop := ∀ j, j < n → (decide (ids.getD j 0 = 0) || bringsB t (sgOf L S ids j)) = true
theorem turnedTo_step {L : List St} {S : List D3} {ids : List Int} {t : T4} {n : Nat} (h : turnedTo L S ids t n) (h1 : (decide (ids.getD n 0 = 0) || bringsB t (sgOf L S ids n)) = true) : turnedTo L S ids t (n + 1) := fun l hl => by
  by_cases e : l = n
  · rw [e]; exact h1
  · exact h l (by omega)
set_option maxHeartbeats 4000000 in
set_option maxRecDepth 100000 in
theorem l06Turned_any (L : List St) (S : List D3) (ids : List Int) (t : T4) (k : Nat) (ar br ir : Option Addr) (cr dr er : Nat) (w : World) (hk6 : k ≤ 6) (hn : L.length ≤ 12) (ht : rightT t.1 t.2.1 t.2.2.1 t.2.2.2 = true) (hS : Stars w ar L L.length) (hD : Dirs w br S k) (hI : Nums w ir ids k)
    (hids : ∀ i, i < k → ids.getD i 0 ≠ 0 → smallB (atV L L.length (ids.getD i 0)).1 (atV L L.length (ids.getD i 0)).2.1 (atV L L.length (ids.getD i 0)).2.2 = true ∧ wideD (vA S i) = true) :
    Calls Tryd.prog 49 #[.slice ar L.length cr, .slice br k dr, .slice ir k er, .agg #[.int .i64 t.1, .int .i64 t.2.1, .int .i64 t.2.2.1, .int .i64 t.2.2.2]] w fun e w' => e = .returned (.bool (turnedI L S ids t k)) ∧ Below w.heap.size w w' := by
  have cA := hide (fun (W : World) (q : Int) hW => l04At_any L L.length q ar cr W (by omega) hW)
  have HNO : Hid (∀ i, i < k → (decide (ids.getD i 0 = 0) || bringsB t (sgOf L S ids i)) = false → turnedI L S ids t k = false) := hide (fun i hi h => turnedI_no hi h)
  have HYE : Hid (turnedTo L S ids t k → turnedI L S ids t k = true) := hide (fun h => turnedI_yes h)
  have HST : Hid (∀ n, turnedTo L S ids t n → (decide (ids.getD n 0 = 0) || bringsB t (sgOf L S ids n)) = true → turnedTo L S ids t (n + 1)) := hide (fun n h h1 => turnedTo_step h h1)
  have H0 : Hid (turnedTo L S ids t 0) := hide (fun j hj => absurd hj (Nat.not_lt_zero _))
  have HBR : Hid (∀ i, bringsB t (sgOf L S ids i) = sameD (vA S i) (apD t.1 t.2.1 t.2.2.1 t.2.2.2 (atV L L.length (ids.getD i 0)))) := hide (fun i => rfl)
  have HDS := hide hids
  have HT := hide ht
  have HS := hide hS
  have HD := hide hD
  clear hS hD hids ht
  generalize turnedI L S ids t k = R at *
  generalize turnedTo L S ids t = TT at *
  generalize bringsB t = br' at *
  obtain ⟨t1, t2, t3, t4⟩ := t
  simp only at HT HBR ⊢
  generalize L.length = n at *
  have V0 := hide (turnAt_new w t1 t2 t3 t4 38)
  have B0 := hide (below1 w (.cells #[.int .i64 t1, .int .i64 t2, .int .i64 t3, .int .i64 t4] 38))
  rcases hI with rfl | ⟨ib, io, rfl, hib, hic⟩
  · have HY := hide (unhide HYE (unhide H0))
    go_enter Tryd.func49, Tryd.ntmps49
    go_wp2_with fail
    refine wp_loop_rounds 1 ?_
    rw [rounds_succ]
    go_wp2_with fail
    go_ret
    exact ⟨by rw [unhide HY]; rfl, unhide B0⟩
  have HIC := hide hic
  clear hic
  go_enter Tryd.func49, Tryd.ntmps49
  go_wp2_with fail
  go_loopw [9] (fun kk wr => ∃ i : Nat, i ≤ k ∧ kk = .int .i64 i ∧ Hid (TT i) ∧ Hid (TurnAt wr w.heap.size t1 t2 t3 t4) ∧ Hid (Below w.heap.size w wr)) (fun kk _ => k - (intOf kk).toNat)
  case atStart => exact ⟨0, by omega, rfl, H0, V0, B0⟩
  case round =>
    clear V0 B0
    obtain ⟨i, hi, rfl, HF, HV, HB⟩ := hrel
    by_cases hik : i < k
    · have hik2 : (i : Int) < (k : Int) := by omega
      have ci : wr.cell? ⟨ib, io + i, none⟩ = some (.int .i64 (ids.getD i 0)) := by rw [(unhide HB).cell (p := ⟨ib, io + i, none⟩) hib]; exact unhide HIC i hik
      have HSTi := hide (unhide HST i (unhide HF))
      have HNOi := hide (unhide HNO i hik)
      have hds := unhide HDS i hik
      rw [unhide HBR i] at HSTi HNOi
      generalize ids.getD i 0 = x at *
      by_cases hx0 : x = 0
      · subst hx0
        have HF2 := hide (unhide HSTi rfl)
        have ri := cell_regrown ci
        clear ci
        have hnz : ((0 : Int) == 0) = true := rfl
        have hnz2 : decide ((0 : Int) ≠ 0) = false := by decide
        go_wp2_with fail
        refine wp_region_quiet_below (by kernel_rfl) (by kernel_rfl) ?_
        repeat (go_big_quiet_step (fail))
        refine wpQuiet_nil ?_
        intro _ hw'
        obtain ⟨⟨dq, osq⟩, hw''⟩ := hw'
        subst hw''
        have hx := below_regrown wr dq osq
        have HB5 := hide (below_call (unhide HB) hx)
        have HV5 := hide ((unhide HV).kept (unhide HV).lt hx)
        generalize grow (redrawn wr dq) osq = W5 at hx HB5 HV5 ⊢
        clear hx ri HB HV
        go_wp2_with fail
        go_roundw
        case rel => exact ⟨i + 1, by omega, by go_num, HF2, HV5, HB5⟩
        case measure => simp [intOf] <;> omega
      have hx0' : (x == 0) = false := by simp [hx0]
      have hx1' : (x != 0) = true := by simp [hx0]
      obtain ⟨hsm, hwd⟩ := hds hx0
      rw [decide_eq_false hx0, Bool.false_or] at HSTi HNOi
      have cAx := hide (fun (W : World) hW => unhide cA W x hW)
      rcases unhide HD with h | ⟨bb, bo, rfl, hbb, hbc⟩
      · omega
      have hsp := (hbc i hik).kept hbb (unhide HB)
      clear hbc
      generalize vA S i = sv at *
      generalize atV L n x = q at *
      have cP := hide (fun W => l03Apply_small t1 t2 t3 t4 q W (unhide HT) hsm)
      have cQ := hide (fun W => l02Same_within (apD t1 t2 t3 t4 q) sv W (apD_within (unhide HT) hsm) (wide_million hwd))
      clear hds hsm hwd
      generalize sameD sv (apD t1 t2 t3 t4 q) = sm at *
      generalize apD t1 t2 t3 t4 q = r at *
      obtain ⟨q1, q2, q3⟩ := q
      obtain ⟨r1, r2, r3⟩ := r
      obtain ⟨v1, v2, v3⟩ := sv
      unfold vecV at cAx
      simp only at cAx cP cQ
      obtain ⟨c0, c1, c2⟩ := hsp
      simp only at c0 c1 c2
      obtain ⟨y0, y1, y2, y3⟩ := unhide HV
      have ri := cell_regrown ci
      have rc0 := cell_regrown c0
      have rc1 := cell_regrown c1
      have rc2 := cell_regrown c2
      have ry0 := cell_regrown y0
      have ry1 := cell_regrown y1
      have ry2 := cell_regrown y2
      have ry3 := cell_regrown y3
      clear ci c0 c1 c2 y0 y1 y2 y3
      have HS1 := hide ((unhide HS).kept (unhide HB))
      go_wp2_with fail
      refine wp_region_quiet_below (by kernel_rfl) (by kernel_rfl) ?_
      repeat (go_big_quiet_step (first | (with_reducible exact Calls.regrown_of (unhide cAx _ ((unhide HS1).kept (below_regrown _ _ _)))) | (with_reducible exact Calls.regrown_of (unhide cP _)) | (with_reducible exact Calls.regrown_of (unhide cQ _))))
      refine wpQuiet_nil ?_
      intro _ hw'
      obtain ⟨⟨dq, osq⟩, hw''⟩ := hw'
      subst hw''
      have hx := below_regrown wr dq osq
      have HB5 := hide (below_call (unhide HB) hx)
      have HV5 := hide ((unhide HV).kept (unhide HV).lt hx)
      generalize grow (redrawn wr dq) osq = W5 at hx HB5 HV5 ⊢
      clear hx ri rc0 rc1 rc2 ry0 ry1 ry2 ry3 cAx cP cQ HB HV HS1
      cases sm
      · have HN := hide (unhide HNOi rfl)
        go_wp2_with fail
        go_ret
        exact ⟨by rw [unhide HN]; rfl, unhide HB5⟩
      · have HF2 := hide (unhide HSTi rfl)
        go_wp2_with fail
        go_roundw
        case rel => exact ⟨i + 1, by omega, by go_num, HF2, HV5, HB5⟩
        case measure => simp [intOf] <;> omega
    · have hik' : i = k := by omega
      subst hik'
      have HY := hide (unhide HYE (unhide HF))
      go_wp2_with fail
      go_ret
      exact ⟨by rw [unhide HY]; rfl, unhide HB⟩
def cntN (ids : List Int) : Nat → Nat
  | 0 => 0
  | k + 1 => cntN ids k + if ids.getD k 0 ≠ 0 then 1 else 0
theorem cntN_eq (L : List St) (S : List D3) (ids : List Int) : ∀ k, cntN ids k = (sightsTo L S ids k).length
  | 0 => rfl
  | k + 1 => by
    have ih := cntN_eq L S ids k
    show cntN ids k + (if ids.getD k 0 ≠ 0 then 1 else 0) = _
    rw [sights_count, ih]
theorem cntN_le (ids : List Int) : ∀ k, cntN ids k ≤ k
  | 0 => Nat.le_refl _
  | k + 1 => by
    have ih := cntN_le ids k
    show cntN ids k + (if ids.getD k 0 ≠ 0 then 1 else 0) ≤ k + 1
    split <;> omega
set_option maxHeartbeats 4000000 in
set_option maxRecDepth 100000 in
theorem l06For_any (L : List St) (S : List D3) (ids : List Int) (ar br ir : Option Addr) (cr dr er : Nat) (w : World) (hN : namedB L S ids = true) (hS : Stars w ar L L.length) (hD : Dirs w br S S.length) (hI : Nums w ir ids ids.length) :
    Calls Tryd.prog 29 #[.slice ar L.length cr, .slice br S.length dr, .slice ir ids.length er] w fun e w' => e = .returned (outV (if (sightsTo L S ids ids.length).length < 2 then ((0, 0, 0, 0), 10) else firstT (sightsTo L S ids ids.length) (turnsTo 625))) ∧ Below w.heap.size w w' := by
  obtain ⟨g1, g2, g3, _⟩ := named_parts hN
  have hm6 := (spots_ok g2).1
  have hn12 := (sky_ok g1).1
  have cU : Hid (∀ (t : T4) (W : World), rightT t.1 t.2.1 t.2.2.1 t.2.2.2 = true → Stars W ar L L.length → Dirs W br S ids.length → Nums W ir ids ids.length → Calls Tryd.prog 49 #[.slice ar L.length cr, .slice br ids.length dr, .slice ir ids.length er, .agg #[.int .i64 t.1, .int .i64 t.2.1, .int .i64 t.2.2.1, .int .i64 t.2.2.2]] W fun e w' => e = .returned (.bool (explB (sightsTo L S ids ids.length) t)) ∧ Below W.heap.size W w') := hide (fun t W ht h1 h2 h3 => by
    rw [← turned_eq]
    exact l06Turned_any L S ids t ids.length ar br ir cr dr er W (by omega) hn12 ht h1 h2 h3 (fun i hi h0 => named_each hN hi h0))
  have HCE := hide (cntN_eq L S ids ids.length)
  have cT : Hid (∀ W : World, Calls Tryd.prog 48 #[] W fun e w' => ∃ g c, e = .returned (.slice (some ⟨g, 0, none⟩) (turnsTo 625).length c) ∧ Turn4s w' g (turnsTo 625) ∧ Below W.heap.size W w') := hide (fun W => (specTurns_any W).mono fun e w' h => by
    obtain ⟨⟨v, he, ho⟩, hb⟩ := h
    obtain ⟨g, c, rfl, hg, ht⟩ := turn4s_of ho turns_some
    exact ⟨g, c, he, ht, hb⟩)
  have HTR : Hid (∀ k, k < (turnsTo 625).length → rightT (tA (turnsTo 625) k).1 (tA (turnsTo 625) k).2.1 (tA (turnsTo 625) k).2.2.1 (tA (turnsTo 625) k).2.2.2 = true) := hide (fun k hk => turns_right hk)
  have hTL := turns_len 625
  have HS := hide hS
  have HD := hide hD
  clear hS hD hN g1 g2
  rw [← g3] at HD hm6
  rw [← g3]
  clear g3
  generalize sightsTo L S ids ids.length = A at *
  have HF1 : Hid (∀ k, k < (turnsTo 625).length → (∀ j, j < k → explB A (tA (turnsTo 625) j) = false) → explB A (tA (turnsTo 625) k) = true → firstT A (turnsTo 625) = (tA (turnsTo 625) k, 0)) := hide (fun k hk h h1 => first_at hk h h1)
  have HF2 : Hid ((∀ j, j < (turnsTo 625).length → explB A (tA (turnsTo 625) j) = false) → firstT A (turnsTo 625) = ((0, 0, 0, 0), 6)) := hide first_none
  generalize turnsTo 625 = T at *
  generalize hlt : T.length = tn at *
  have HTL := hide hlt
  clear hlt
  generalize L.length = n at *
  generalize A.length = al at *
  obtain ⟨RV, hRV⟩ : ∃ r, r = (if al < 2 then ((0, 0, 0, 0), 10) else firstT A T) := ⟨_, rfl⟩
  rw [← hRV]
  have HRA : Hid (al < 2 → RV = ((0, 0, 0, 0), 10)) := hide (fun h => by rw [hRV, if_pos h])
  have HRB : Hid (¬ al < 2 → RV = firstT A T) := hide (fun h => by rw [hRV, if_neg h])
  clear hRV
  have HI := hide hI
  clear hI
  generalize ids.length = k at *
  have R0 := hide (blk_new w [.int .i64 0, .int .i64 0, .int .i64 0, .int .i64 0, .int .i64 0] 40)
  have B0 := hide (below1 w (.cells #[.int .i64 0, .int .i64 0, .int .i64 0, .int .i64 0, .int .i64 0] 40))
  go_enter Tryd.func29, Tryd.ntmps29
  go_wp2_with fail
  generalize w.alloc (.cells #[.int .i64 0, .int .i64 0, .int .i64 0, .int .i64 0, .int .i64 0] 40) = W0 at R0 B0 ⊢
  go_loopw [7, 8] (fun c kk wr => ∃ i : Nat, i ≤ k ∧ kk = .int .i64 i ∧ c = .int .i64 (cntN ids i : Int) ∧ wr = W0) (fun _ kk _ => k - (intOf kk).toNat)
  case atStart => exact ⟨0, by omega, rfl, rfl, rfl⟩
  case round =>
    obtain ⟨i, hi, rfl, rfl, rfl⟩ := hrel
    by_cases hik : i < k
    · have hik2 : (i : Int) < (k : Int) := by omega
      rcases unhide HI with h | ⟨ib, io, rfl, hib, hic⟩
      · omega
      have ci : wr.cell? ⟨ib, io + i, none⟩ = some (.int .i64 (ids.getD i 0)) := by rw [(unhide B0).cell (p := ⟨ib, io + i, none⟩) hib]; exact hic i hik
      clear hic
      have HCN : Hid (cntN ids (i + 1) = cntN ids i + if ids.getD i 0 ≠ 0 then 1 else 0) := hide rfl
      have hcl := cntN_le ids i
      generalize ids.getD i 0 = x at *
      generalize hci : cntN ids i = ct at *
      clear hci
      by_cases hx0 : x = 0
      · subst hx0
        rw [if_neg (by simp)] at HCN
        go_wp2_with fail
        go_roundw
        case rel => exact ⟨i + 1, by omega, by go_num, by rw [unhide HCN]; rfl, by first | rfl | trivial⟩
        case measure => simp [intOf] <;> omega
      · have hx0' : (x == 0) = false := by simp [hx0]
        rw [if_pos hx0] at HCN
        go_wp2_with fail
        go_roundw
        case rel => exact ⟨i + 1, by omega, by go_num, by rw [unhide HCN]; go_num, by first | rfl | trivial⟩
        case measure => simp [intOf] <;> omega
    · have hik' : i = k := by omega
      subst hik'
      rw [unhide HCE]
      clear HCE
      by_cases h2 : al < 2
      · have h2' : (al : Int) < 2 := by omega
        have HRV := hide (unhide HRA h2)
        have r0 := (unhide R0).cell 0 _ rfl
        have r1 := (unhide R0).cell 1 _ rfl
        have r2 := (unhide R0).cell 2 _ rfl
        have r3 := (unhide R0).cell 3 _ rfl
        have r4 := (unhide R0).cell 4 _ rfl
        have f0 := (unhide R0).free 0
        have f1 := (unhide R0).free 1
        have f2 := (unhide R0).free 2
        have f3 := (unhide R0).free 3
        have f4 := (unhide R0).free 4
        go_wp2_with fail
        exact bodyPost_ret (v := .agg #[.int .i64 0, .int .i64 0, .int .i64 0, .int .i64 0, .int .i64 10]) (by simp [results, Tryd.results29, go_sem, r0, r1, r2, r3, r4]) rfl ⟨by rw [unhide HRV]; rfl, below_set5' (unhide B0) (Nat.le_refl _) _ _ _ _ _⟩
      have h2' : ¬ (al : Int) < 2 := by omega
      have HR := hide (unhide HRB h2)
      clear HRA HRB h2
      go_wp2_with fail
      refine (unhide cT _).mono ?_
      rintro e W3 ⟨g, c3, rfl, ht, hx⟩
      have HT3 := hide ht
      have HR3 := hide ((unhide R0).kept hx)
      have HB3 := hide (below_call (unhide B0) hx)
      clear ht hx R0 B0 cT
      go_wp2_with fail
      go_loopw [10] (fun kk wr => ∃ j : Nat, j ≤ tn ∧ kk = .int .i64 j ∧ Hid (∀ l, l < j → explB A (tA T l) = false) ∧ Hid (Turn4s wr g T) ∧ Hid (Blk wr w.heap.size [.int .i64 0, .int .i64 0, .int .i64 0, .int .i64 0, .int .i64 0] 40) ∧ Hid (Below w.heap.size w wr)) (fun kk _ => tn - (intOf kk).toNat)
      case atStart => exact ⟨0, by omega, rfl, hide (fun j hj => absurd hj (Nat.not_lt_zero _)), HT3, HR3, HB3⟩
      case round =>
        clear HT3 HR3 HB3
        obtain ⟨j, hj, rfl, HF, HT, HRB, HB⟩ := hrel
        by_cases hjn : j < tn
        · have hjn2 : (j : Int) < (tn : Int) := by omega
          obtain ⟨c0, c1, c2', c3'⟩ := (unhide HT).2 j (by rw [unhide HTL]; exact hjn)
          have htr := unhide HTR j hjn
          have HF1j := hide (unhide HF1 j hjn (unhide HF))
          obtain ⟨t, ht⟩ : ∃ t, tA T j = t := ⟨_, rfl⟩
          rw [ht] at c0 c1 c2' c3' htr HF1j
          have HTE := hide ht
          clear ht
          have cEt := hide (fun W h1 h2 h3 => unhide cU t W htr h1 h2 h3)
          clear htr
          have HEX : Hid (explB A (tA T j) = explB A t) := hide (by rw [unhide HTE])
          generalize explB A t = ev at *
          obtain ⟨t1, t2, t3, t4⟩ := t
          simp only at c0 c1 c2' c3' cEt
          go_wp2_with fail
          refine (unhide cEt _ ((unhide HS).kept (unhide HB)) ((unhide HD).kept (unhide HB)) ((unhide HI).kept (unhide HB))).mono ?_
          rintro e W5 ⟨rfl, hx⟩
          have HT2 := hide ((unhide HT).kept hx)
          have HR2 := hide ((unhide HRB).kept hx)
          have HB2 := hide (below_call (unhide HB) hx)
          have x0 := cellKept c0 hx
          have x1 := cellKept c1 hx
          have x2 := cellKept c2' hx
          have x3 := cellKept c3' hx
          clear hx HT HRB HB cEt c0 c1 c2' c3'
          cases ev
          · clear x0 x1 x2 x3
            go_wp2_with fail
            go_roundw
            case rel => exact ⟨j + 1, by omega, by go_num, hide (fun l hl => by
              by_cases e : l = j
              · rw [e]; exact unhide HEX
              · exact unhide HF l (by omega)), HT2, HR2, HB2⟩
            case measure => simp [intOf]; omega
          · have HRV : Hid (RV = ((t1, t2, t3, t4), 0)) := hide (by rw [unhide HR]; exact unhide HF1j rfl)
            have r0 := (unhide HR2).cell 0 _ rfl
            have r1 := (unhide HR2).cell 1 _ rfl
            have r2 := (unhide HR2).cell 2 _ rfl
            have r3 := (unhide HR2).cell 3 _ rfl
            have r4 := (unhide HR2).cell 4 _ rfl
            have f0 := (unhide HR2).free 0
            have f1 := (unhide HR2).free 1
            have f2 := (unhide HR2).free 2
            have f3 := (unhide HR2).free 3
            have f4 := (unhide HR2).free 4
            go_wp2_with fail
            exact bodyPost_ret (v := .agg #[.int .i64 t1, .int .i64 t2, .int .i64 t3, .int .i64 t4, .int .i64 0]) (by simp [results, Tryd.results29, go_sem, r0, r1, r2, r3, r4]) rfl ⟨by rw [unhide HRV]; rfl, below_set5' (unhide HB2) (Nat.le_refl _) _ _ _ _ _⟩
        · have hjn' : j = tn := by omega
          subst hjn'
          have HRV : Hid (RV = ((0, 0, 0, 0), 6)) := hide (by rw [unhide HR]; exact unhide HF2 (unhide HF))
          have r0 := (unhide HRB).cell 0 _ rfl
          have r1 := (unhide HRB).cell 1 _ rfl
          have r2 := (unhide HRB).cell 2 _ rfl
          have r3 := (unhide HRB).cell 3 _ rfl
          have r4 := (unhide HRB).cell 4 _ rfl
          have f0 := (unhide HRB).free 0
          have f1 := (unhide HRB).free 1
          have f2 := (unhide HRB).free 2
          have f3 := (unhide HRB).free 3
          have f4 := (unhide HRB).free 4
          go_wp2_with fail
          exact bodyPost_ret (v := .agg #[.int .i64 0, .int .i64 0, .int .i64 0, .int .i64 0, .int .i64 6]) (by simp [results, Tryd.results29, go_sem, r0, r1, r2, r3, r4]) rfl ⟨by rw [unhide HRV]; rfl, below_set5' (unhide HB) (Nat.le_refl _) _ _ _ _ _⟩
set_option maxHeartbeats 4000000 in
set_option maxRecDepth 100000 in
theorem specTurnFor_any (L : List St) (S : List D3) (ids : List Int) (ar br ir : Option Addr) (cr dr er : Nat) (w : World) (hn : L.length ≤ 1048576) (hn2 : S.length ≤ 1048576) (hn3 : ids.length ≤ 1048576) (hd : S.length ≤ dr) (he : ids.length ≤ er) (hS : Stars w ar L L.length) (hD : Dirs w br S S.length) (hI : Nums w ir ids ids.length) :
    Calls Tryd.prog 15 #[.slice ar L.length cr, .slice br S.length dr, .slice ir ids.length er] w fun e w' => e = .returned (outV (forV L S ids)) ∧ Below w.heap.size w w' := by
  have cN := hide (fun (W : World) h1 h2 h3 => specNamed_any L S ids ar br ir cr dr er W hn hn2 hn3 hd he h1 h2 h3)
  have cO : Hid (¬ (400 < L.length ∨ 400 < S.length ∨ 400 < ids.length) → namedB L S ids = true → ∀ W : World, Stars W ar L L.length → Dirs W br S S.length → Nums W ir ids ids.length → Calls Tryd.prog 29 #[.slice ar L.length cr, .slice br S.length dr, .slice ir ids.length er] W fun e w' => e = .returned (outV (forV L S ids)) ∧ Below W.heap.size W w') := hide (fun hb h W h1 h2 h3 => by
    have e : forV L S ids = (if (sightsTo L S ids ids.length).length < 2 then ((0, 0, 0, 0), 10) else firstT (sightsTo L S ids ids.length) (turnsTo 625)) := by
      by_cases h2 : (sightsTo L S ids ids.length).length < 2
      · rw [if_pos h2]; exact for_few hb h h2
      · rw [if_neg h2]; exact for_first hb h h2
    rw [e]
    exact l06For_any L S ids ar br ir cr dr er W h h1 h2 h3)
  have H1 : Hid (400 < L.length ∨ 400 < S.length ∨ 400 < ids.length → forV L S ids = ((0, 0, 0, 0), 2)) := hide for_size
  have H2 : Hid (¬ (400 < L.length ∨ 400 < S.length ∨ 400 < ids.length) → namedB L S ids = false → forV L S ids = ((0, 0, 0, 0), 1)) := hide for_form
  have HS := hide hS
  have HD := hide hD
  have HI := hide hI
  clear hS hD hI
  generalize forV L S ids = R at *
  generalize namedB L S ids = nb at *
  generalize S.length = m at *
  generalize ids.length = k at *
  generalize L.length = n at *
  have R0 := blk_new w [.int .i64 0, .int .i64 0, .int .i64 0, .int .i64 0, .int .i64 0] 40
  have B0 := below1 w (.cells #[.int .i64 0, .int .i64 0, .int .i64 0, .int .i64 0, .int .i64 0] 40)
  by_cases hbig : 400 < n ∨ 400 < m ∨ 400 < k
  · obtain rfl := unhide H1 hbig
    have h' : 400 < n ∨ (¬ 400 < n ∧ 400 < m) ∨ (¬ 400 < n ∧ ¬ 400 < m ∧ 400 < k) := by omega
    rcases h' with h | ⟨h, h1⟩ | ⟨h, h1, h2⟩
    · have g1 : decide ((400 : Int) < (n : Int)) = true := by simp; omega
      have g2 : (400 : Int) < (n : Int) := by omega
      go_enter Tryd.func15, Tryd.ntmps15
      go_wp2_with fail
      exact bodyPost_ret (v := .agg #[.int .i64 0, .int .i64 0, .int .i64 0, .int .i64 0, .int .i64 2]) (by simp [results, Tryd.results15, go_sem]) rfl ⟨rfl, below1 _ _⟩
    · have g1 : decide ((400 : Int) < (n : Int)) = false := by simp; omega
      have g2 : ¬ (400 : Int) < (n : Int) := by omega
      have g3 : decide ((400 : Int) < (m : Int)) = true := by simp; omega
      have g4 : (400 : Int) < (m : Int) := by omega
      go_enter Tryd.func15, Tryd.ntmps15
      go_wp2_with fail
      exact bodyPost_ret (v := .agg #[.int .i64 0, .int .i64 0, .int .i64 0, .int .i64 0, .int .i64 2]) (by simp [results, Tryd.results15, go_sem]) rfl ⟨rfl, below1 _ _⟩
    · have g1 : decide ((400 : Int) < (n : Int)) = false := by simp; omega
      have g2 : ¬ (400 : Int) < (n : Int) := by omega
      have g3 : decide ((400 : Int) < (m : Int)) = false := by simp; omega
      have g4 : ¬ (400 : Int) < (m : Int) := by omega
      have g5 : decide ((400 : Int) < (k : Int)) = true := by simp; omega
      have g6 : (400 : Int) < (k : Int) := by omega
      go_enter Tryd.func15, Tryd.ntmps15
      go_wp2_with fail
      exact bodyPost_ret (v := .agg #[.int .i64 0, .int .i64 0, .int .i64 0, .int .i64 0, .int .i64 2]) (by simp [results, Tryd.results15, go_sem]) rfl ⟨rfl, below1 _ _⟩
  have g1 : decide ((400 : Int) < (n : Int)) = false := by simp; omega
  have g2 : ¬ (400 : Int) < (n : Int) := by omega
  have g3 : decide ((400 : Int) < (m : Int)) = false := by simp; omega
  have g4 : ¬ (400 : Int) < (m : Int) := by omega
  have g5 : decide ((400 : Int) < (k : Int)) = false := by simp; omega
  have g6 : ¬ (400 : Int) < (k : Int) := by omega
  go_enter Tryd.func15, Tryd.ntmps15
  go_wp2_with fail
  generalize w.alloc (.cells #[.int .i64 0, .int .i64 0, .int .i64 0, .int .i64 0, .int .i64 0] 40) = W0 at R0 B0 ⊢
  refine (unhide cN _ ((unhide HS).kept B0) ((unhide HD).kept B0) ((unhide HI).kept B0)).mono ?_
  rintro e W1 ⟨rfl, hx⟩
  have R1 := R0.kept hx
  have B1 := below_call B0 hx
  clear hx R0 B0
  cases nb
  · obtain rfl := unhide H2 hbig rfl
    have r0 := R1.cell 0 _ rfl
    have r1 := R1.cell 1 _ rfl
    have r2 := R1.cell 2 _ rfl
    have r3 := R1.cell 3 _ rfl
    have r4 := R1.cell 4 _ rfl
    have f0 := R1.free 0
    have f1 := R1.free 1
    have f2 := R1.free 2
    have f3 := R1.free 3
    have f4 := R1.free 4
    go_wp2_with fail
    exact bodyPost_ret (v := .agg #[.int .i64 0, .int .i64 0, .int .i64 0, .int .i64 0, .int .i64 1]) (by simp [results, Tryd.results15, go_sem, r0, r1, r2, r3, r4]) rfl ⟨rfl, below_set5' B1 (Nat.le_refl _) _ _ _ _ _⟩
  have cO' := hide (unhide cO hbig rfl)
  clear cO H1 H2 cN hbig g1 g2 g3 g4 g5 g6
  obtain ⟨⟨t1, t2, t3, t4⟩, tc⟩ := R
  have cO2 : Hid (∀ W : World, Stars W ar L n → Dirs W br S m → Nums W ir ids k → Calls Tryd.prog 29 #[.slice ar n cr, .slice br m dr, .slice ir k er] W fun e w' => e = .returned (.agg #[.int .i64 t1, .int .i64 t2, .int .i64 t3, .int .i64 t4, .int .i64 tc]) ∧ Below W.heap.size W w') := cO'
  clear cO'
  go_wp2_with fail
  refine (unhide cO2 _ ((unhide HS).kept B1) ((unhide HD).kept B1) ((unhide HI).kept B1)).mono ?_
  rintro e W2 ⟨rfl, hx⟩
  have R2 := R1.kept hx
  have B2 := below_call B1 hx
  have r0 := R2.cell 0 _ rfl
  have r1 := R2.cell 1 _ rfl
  have r2 := R2.cell 2 _ rfl
  have r3 := R2.cell 3 _ rfl
  have r4 := R2.cell 4 _ rfl
  have f0 := R2.free 0
  have f1 := R2.free 1
  have f2 := R2.free 2
  have f3 := R2.free 3
  have f4 := R2.free 4
  clear hx R1 B1 cO2
  go_wp2_with fail
  exact bodyPost_ret (v := .agg #[.int .i64 t1, .int .i64 t2, .int .i64 t3, .int .i64 t4, .int .i64 tc]) (by simp [results, Tryd.results15, go_sem, r0, r1, r2, r3, r4]) rfl ⟨rfl, below_set5' B2 (Nat.le_refl _) _ _ _ _ _⟩
end Go.Proofs.YtphfllkkpblbaaaDoor

namespace Go.Proofs.YtphfllkkpblbaaaDoor
open Go.RowKit Go.Sort
set_option linter.unusedVariables false

set_option maxRecDepth 100000 in
theorem eqTurn7 (x y z u : Int) (w : World) :
    Calls Tryd.prog 32 #[.agg #[.int .i64 x, .int .i64 y, .int .i64 z, .int .i64 u], .agg #[.int .i64 x, .int .i64 y, .int .i64 z, .int .i64 u]] w fun e w' => e = .returned (.bool true) ∧ Below w.heap.size w w' := by
  go_enter Tryd.func32, Tryd.ntmps32
  go_wp2
  go_ret
  exact ⟨rfl, below2 _ _ _⟩
set_option maxRecDepth 100000 in
theorem eqTurnOut_same (x y z u c : Int) (w : World) :
    Calls Tryd.prog 17 #[.agg #[.int .i64 x, .int .i64 y, .int .i64 z, .int .i64 u, .int .i64 c], .agg #[.int .i64 x, .int .i64 y, .int .i64 z, .int .i64 u, .int .i64 c]] w fun e w' => e = .returned (.bool true) ∧ Below w.heap.size w w' := by
  have O1 := (blk_new w [.int .i64 x, .int .i64 y, .int .i64 z, .int .i64 u, .int .i64 c] 40).alloc (.cells #[.int .i64 x, .int .i64 y, .int .i64 z, .int .i64 u, .int .i64 c] 40)
  have O2 := blk_new (w.alloc (.cells #[.int .i64 x, .int .i64 y, .int .i64 z, .int .i64 u, .int .i64 c] 40)) [.int .i64 x, .int .i64 y, .int .i64 z, .int .i64 u, .int .i64 c] 40
  have e1 : (w.alloc (.cells #[.int .i64 x, .int .i64 y, .int .i64 z, .int .i64 u, .int .i64 c] 40)).heap.size = w.heap.size + 1 := by simp
  rw [e1] at O2
  have B1 := below2 w (.cells #[.int .i64 x, .int .i64 y, .int .i64 z, .int .i64 u, .int .i64 c] 40) (.cells #[.int .i64 x, .int .i64 y, .int .i64 z, .int .i64 u, .int .i64 c] 40)
  clear e1
  go_enter Tryd.func17, Tryd.ntmps17
  go_wp2_with fail
  refine (eqTurn7 x y z u _).mono ?_
  rintro e w1 ⟨rfl, hx⟩
  have p4 := (O1.kept hx).cell 4 _ rfl
  have q4 := (O2.kept hx).cell 4 _ rfl
  have B2 := below_call B1 hx
  clear hx B1 O1 O2
  go_wp2_with fail
  go_ret
  exact ⟨rfl, B2⟩
end Go.Proofs.YtphfllkkpblbaaaDoor
