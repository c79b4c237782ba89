/- The program's search: a node of goOn, walked. -/
import Derived.Test.YtjdehbpgdplolaaDoorIeN
namespace Go.Proofs.YtjdehbpgdplolaaDoor
open Go.RowKit Go.Sort Go.Shelf
set_option linter.unusedVariables false
attribute [local go_sem] Oper.semAt_some

theorem SrAt.keptM {b p q : Nat} {w w' : World} {c : Nat} {v0 v1 v2 : Value} (h : SrAt w c v0 v1 v2) (hg : KpM b p q w w') (n0 : c ≠ b) (n1 : c ≠ p) (n2 : c ≠ q) : SrAt w' c v0 v1 v2 := ⟨hg.cell h.1 n0 n1 n2, hg.cell h.2.1 n0 n1 n2, hg.cell h.2.2 n0 n1 n2⟩
set_option maxHeartbeats 8000000 in
set_option maxRecDepth 100000 in
theorem goOn_succ (L : List St) (S : List D3) (ar br : Option Addr) (cr dr b l p q r : Nat) (J : List (List Int) → World → Prop) (hk : skyB L = true) (hm : S.length ≤ 6) (hJ : JAb b J) (hbp : b ≠ p) (hbq : b ≠ q) (hA : Apart3 ar b p q) (hB : Apart3 br b p q) (ih : GoOk L S ar br cr dr b l p q J r) : GoOk L S ar br cr dr b l p q J (r + 1) := fun ids pre N n w hl hN13 hN hS hD hp hq hj => by
  have hn12 : L.length ≤ 12 := (sky_ok hk).1
  have B0 := below1 w (.cells #[.slice ar L.length cr, .slice br S.length dr, .map (some b)] 78)
  have C0 : SrAt (w.alloc (.cells #[.slice ar L.length cr, .slice br S.length dr, .map (some b)] 78)) w.heap.size (.slice ar L.length cr) (.slice br S.length dr) (.map (some b)) := by refine ⟨?_, ?_, ?_⟩ <;> simp
  have hbl : b < w.heap.size := by obtain ⟨D, hD, _⟩ := hN; exact hD.lt
  have cA := hide (fun (k : Nat) => (callsIn_wide (n := k)).2 (ahead_any L S ids ids.length ar br L.length cr dr b N _ hm (by omega) (hD.kept B0) (hN.below B0)))
  have HN := hide (hN.below B0)
  have HS := hide (hS.kept B0)
  have HD := hide (hD.kept B0)
  have HJ0 := hide (hJ _ _ _ hj hN.isMap (grownB1 B0))
  have HC := hide C0
  have HB0 := hide B0
  have HIH := hide ih
  have HJA := hide hJ
  have hne : ¬ (ids.length : Int) = (S.length : Int) := by omega
  have e16 : ((ids.length : Int) == (S.length : Int)) = false := by rw [beq_eq_false_iff_ne]; exact hne
  have hsz : (w.alloc (.cells #[.slice ar L.length cr, .slice br S.length dr, .map (some b)] 78)).heap.size = w.heap.size + 1 := by simp
  clear B0 C0 hN hS hD hj ih hJ
  refine callsIn_of_wp Tryd.func44 rfl trivial ?_ rfl
  simp only [Tryd.ntmps44, List.size_toArray, List.length_cons, List.length_nil, Nat.reduceAdd, Nat.reduceSub, Array.replicate_succ, Array.replicate_zero, List.push_toArray, List.append_toArray, List.nil_append, List.cons_append]
  gi_wp2
  refine ⟨trivial, fun h => (by cases h), ?_⟩
  generalize hW : w.alloc (.cells #[.slice ar L.length cr, .slice br S.length dr, .map (some b)] 78) = W at *
  clear hW
  refine (unhide cA _).mono ?_
  rintro e w1 ⟨⟨v, rfl, ho⟩, hx⟩
  obtain ⟨av, cv, rfl⟩ := own_form ho
  have HSi := hide (sights_own ho)
  have hcv := own_cap ho (by decide)
  have hcm := own_capMax ho
  have hm9 : maxLen ≤ 9223372036854775807 := by decide +kernel
  have hna := sights_len L S ids ids.length
  have HAp : Hid (Apart3 av b p q) := hide (fun y e => by
    rcases ho.2 with ⟨h1, _⟩ | ⟨g, c', cur, e', hb', _⟩
    · injection h1 with h1; rw [h1] at e; cases e
    · injection e' with e1; rw [e1] at e; cases e; exact ⟨by show g ≠ b; omega, by show g ≠ p; omega, by show g ≠ q; omega⟩)
  have N1 := hide ((unhide HN).below hx)
  have S1 := hide ((unhide HS).kept hx)
  have D1 := hide ((unhide HD).kept hx)
  have J1 := hide (unhide HJA _ _ _ (unhide HJ0) (unhide HN).isMap (grownB1 hx))
  have C1 := hide ((unhide HC).kept hx)
  have HK0 := hide (KpM.of_below (b := b) (p := p) (q := q) (below_call (unhide HB0) hx))
  have hw1 : w.heap.size + 1 ≤ w1.heap.size := by have := hx.size; omega
  have HFE := hide (fit_same L S ids)
  generalize hsa : sightsTo L S ids ids.length = SA at *
  clear ho hx HN HS HD HJ0 HC HB0 cA hsz hsa
  obtain ⟨c0, c1, c2⟩ := unhide C1
  gi_wp2
  clear c0 c1 c2
  gi_loopw [27] (fun i wr => ∃ k : Nat, k ≤ L.length ∧ i = .int .i64 k ∧ Hid (J (pre ++ partN (fitF L S) (L.map (·.1)) r ids k) wr) ∧ Hid (NamedAt wr b (N + k * 13 ^ r) L ids) ∧ Hid (KpM b p q w1 wr)) (fun i _ => L.length - (intOf i).toNat)
  case atStart => exact ⟨0, Nat.zero_le _, rfl, hide (by rw [partN_zero, List.append_nil]; exact unhide J1), hide (by rw [Nat.zero_mul]; exact unhide N1), hide ⟨Nat.le_refl _, rfl, rfl, rfl, fun _ _ h _ _ _ _ => h⟩⟩
  case round =>
    clear J1 N1
    obtain ⟨k, hkl, rfl, HJr, HNr, HKr⟩ := hrel
    have Sr := hide (starsM (unhide S1) (unhide HKr) hA)
    have Dr := hide (dirsM (unhide D1) (unhide HKr) hB)
    have Cr := hide ((unhide C1).keptM (unhide HKr) (by omega) (by omega) (by omega))
    have Ar := hide (sightsM (unhide HSi) (unhide HKr) (unhide HAp))
    have hwr : w.heap.size + 1 ≤ wr.heap.size := Nat.le_trans hw1 (unhide HKr).size
    obtain ⟨c0, c1, c2⟩ := unhide Cr
    by_cases hkn : k < L.length
    · obtain ⟨⟨s1, s2, s3, s4⟩, hst⟩ : ∃ z, stA L k = z := ⟨_, rfl⟩
      have hsm1 := star_small hk hkn
      have hat := at_own hk hkn
      have HMA : Hid ((L.map (·.1)).getD k 0 = s1) := hide (by rw [map_at hkn, hst])
      rw [hst] at hsm1 hat
      have HAT := hide hat
      have HS1 := hide hsm1.2
      have hkn2 : (k : Int) < (L.length : Int) := by omega
      rcases unhide Sr with h0 | ⟨sb, so, rfl, hsb, hcs⟩
      · omega
      have hstar := hcs k hkn
      rw [hst] at hstar
      obtain ⟨d0, d1, d2, d3⟩ := hstar
      clear hsm1 hat hst hcs
      rcases unhide Dr with h0 | ⟨db, do', rfl, hdb, hcd⟩
      · omega
      obtain ⟨⟨v1, v2, v3⟩, hv⟩ : ∃ z, vA S ids.length = z := ⟨_, rfl⟩
      have hdir := hcd ids.length (by omega)
      rw [hv] at hdir
      have HV := hide hv
      obtain ⟨g0, g1, g2⟩ := hdir
      dsimp only at d0 d1 d2 d3 g0 g1 g2
      clear hcd hv
      have hpl : (ids.length : Int) < (S.length : Int) := by omega
      have Z2 := below1 wr (.cells #[.int .i64 s1, .int .i64 s2, .int .i64 s3, .int .i64 s4] 46)
      have E2 := hide (starAt_new wr (s1, s2, s3, s4) 46)
      have HB2 := hide Z2
      have y1 := cellK5 c1 Z2
      have y2 := cellK5 c2 Z2
      have z0 := cellK5 g0 Z2
      have z1 := cellK5 g1 Z2
      have z2 := cellK5 g2 Z2
      clear Z2
      gi_wp2
      clear c0 c1 c2 d0 d1 d2 d3 g0 g1 g2
      generalize hW2 : wr.alloc (.cells #[.int .i64 s1, .int .i64 s2, .int .i64 s3, .int .i64 s4] 46) = W2 at *
      clear hW2
      obtain ⟨e0, e1, e2, e3⟩ := unhide E2
      simp only [Nat.zero_add] at e0 e1 e2 e3
      have y1' := fun o => cellK5 y1 (below1 W2 o)
      have z0' := fun o => cellK5 z0 (below1 W2 o)
      have z1' := fun o => cellK5 z1 (below1 W2 o)
      have z2' := fun o => cellK5 z2 (below1 W2 o)
      have e0' := fun o => cellK5 e0 (below1 W2 o)
      have e1' := fun o => cellK5 e1 (below1 W2 o)
      have e2' := fun o => cellK5 e2 (below1 W2 o)
      have e3' := fun o => cellK5 e3 (below1 W2 o)
      gi_region
      have Z3 := (below1 W2 (.cells #[.int .i64 v1, .int .i64 v2, .int .i64 v3, .int .i64 s1, .int .i64 s2, .int .i64 s3, .int .i64 s4] 97))
      have Y3 : Below W2.heap.size W2 (W2.alloc (.cells #[.int .i64 v1, .int .i64 v2, .int .i64 v3, .int .i64 s1, .int .i64 s2, .int .i64 s3, .int .i64 s4] 97)).drew := Z3.drew
      have P3 : Hid (SgAt (W2.alloc (.cells #[.int .i64 v1, .int .i64 v2, .int .i64 v3, .int .i64 s1, .int .i64 s2, .int .i64 s3, .int .i64 s4] 97)).drew W2.heap.size 0 ((v1, v2, v3), (s1, s2, s3, s4))) := hide (sgAt_new W2 ((v1, v2, v3), (s1, s2, s3, s4)) 97)
      have E3 := hide ((unhide E2).kept (World.block_lt_of_cell? W2 _ e0) Y3)
      have HB3 := hide (below_call (unhide HB2) Y3)
      generalize hW3 : (W2.alloc (.cells #[.int .i64 v1, .int .i64 v2, .int .i64 v3, .int .i64 s1, .int .i64 s2, .int .i64 s3, .int .i64 s4] 97)).drew = W3 at *
      clear hW3 Z3 Y3 y1 y2 z0 z1 z2 e0 e1 e2 e3 y1' z0' z1' z2' e0' e1' e2' e3' E2 HB2
      have J3 := hide (unhide HJA _ _ _ (unhide HJr) (unhide HNr).isMap (grownB1 (unhide HB3)))
      have N3 := hide ((unhide HNr).below (unhide HB3))
      have K3 := hide ((unhide HKr).trans (KpM.of_below (b := b) (p := p) (q := q) (unhide HB3)))
      have A3 := hide ((unhide Ar).kept (unhide HB3))
      have C3 := hide ((unhide Cr).kept (unhide HB3))
      have hw3 : w.heap.size + 1 ≤ W3.heap.size := Nat.le_trans hwr (unhide HB3).size
      generalize W2.heap.size = nb at *
      obtain ⟨n0, n1, n2, n3, n4, n5, n6⟩ := unhide P3
      simp only [Nat.zero_add] at n0 n1 n2 n3 n4 n5 n6
      have cF := hide (fun (j : Nat) => (callsIn_wide (n := j)).2 (fitsBehind_any SA SA.length ((v1, v2, v3), (s1, s2, s3, s4)) av cv W3 (by omega) hcv (by omega) (unhide A3)))
      have HFV : Hid (fitsB SA ((v1, v2, v3), (s1, s2, s3, s4)) SA.length = fitF L S ids s1) := hide (by rw [unhide HFE s1, unhide HV, unhide HAT])
      rw [unhide HFV] at cF
      unfold sgV at cF
      dsimp only at cF
      gi_wp2
      refine ⟨trivial, fun h => (by cases h), ?_⟩
      refine (unhide cF _).mono ?_
      rintro e W4 ⟨rfl, hx⟩
      have J4 := hide (unhide HJA _ _ _ (unhide J3) (unhide N3).isMap (grownB1 hx))
      have N4 := hide ((unhide N3).below hx)
      have K4 := hide ((unhide K3).trans (KpM.of_below (b := b) (p := p) (q := q) hx))
      have C4 := hide ((unhide C3).kept hx)
      have E4 := hide ((unhide E3).kept (World.block_lt_of_cell? W3 _ (unhide E3).1) hx)
      have hw4 : w.heap.size + 1 ≤ W4.heap.size := Nat.le_trans hw3 hx.size
      clear hx n0 n1 n2 n3 n4 n5 n6 J3 N3 K3 C3 E3 A3 cF P3 HJr HNr HKr Cr Ar Sr Dr HB3
      cases hfit : fitF L S ids s1
      · have HR : Hid (partN (fitF L S) (L.map (·.1)) r ids (k + 1) = partN (fitF L S) (L.map (·.1)) r ids k) := hide (by rw [partN_succ _ _ _ _ (by rw [List.length_map]; exact hkn), unhide HMA, hfit]; simp)
        have J5 : Hid (J (pre ++ partN (fitF L S) (L.map (·.1)) r ids (k + 1)) W4) := hide (by rw [unhide HR]; exact unhide J4)
        have N5 : Hid (NamedAt W4 b (N + (k + 1) * 13 ^ r) L ids) := hide (by obtain ⟨D, h1, h2⟩ := unhide N4; exact ⟨D, h1.mono (Nat.add_le_add_left (Nat.mul_le_mul_right _ (Nat.le_succ k)) _), h2⟩)
        gi_wp2
        go_roundw
        case rel => first | exact ⟨k + 1, by omega, by go_num, J5, N5, K4⟩ | trace_state
        case measure => simp [intOf]; omega
      · have HR : Hid (partN (fitF L S) (L.map (·.1)) r ids (k + 1) = partN (fitF L S) (L.map (·.1)) r ids k ++ allN (fitF L S) (L.map (·.1)) r (ids ++ [s1])) := hide (by rw [partN_succ _ _ _ _ (by rw [List.length_map]; exact hkn), unhide HMA, hfit]; rfl)
        obtain ⟨c0, c1, c2⟩ := unhide C4
        obtain ⟨e0, e1, e2, e3⟩ := unhide E4
        simp only [Nat.zero_add] at e0 e1 e2 e3
        obtain ⟨D, hown, hM⟩ := unhide N4
        have hNb : N + k * 13 ^ r < maxLen := by
          have h1 : k * 13 ^ r ≤ 12 * 13 ^ r := Nat.mul_le_mul_right _ (by omega)
          have h2 : 100000000 ≤ maxLen := by decide +kernel
          rw [Nat.pow_succ] at hN13
          have h3 : 0 < 13 ^ r := Nat.pow_pos (by decide)
          generalize 13 ^ r = c at *
          generalize k * c = kc at *
          omega
        gi_wp2_with (gi_at_mapUpdate; refine wpListIn_mapUpdate_own _ rfl _ _ _ 76 rfl 3 46 (Maps.int_keyed Tryd.underlying3) Tryd.underlying76 starE b (N + k * 13 ^ r) D rfl hown hNb _ _ (.int .i64 (ids.length : Int)) rfl rfl (keyI ids.length (by omega)) (starD (s1, s2, s3, s4)) [] (starE_mk (s1, s2, s3, s4)) ?_; intro W5 hown5 hg5; have HU5 := hide hown5; have HG5 := hide hg5; clear hown5 hg5; have C5 := hide ((unhide C4).keptM (KpM.of_grown (b := b) (p := p) (q := q) (unhide HG5)) (by omega) (by omega) (by omega)); obtain ⟨x0, x1, x2⟩ := unhide C5)
        have J5 := hide (unhide HJA _ _ _ (unhide J4) (unhide N4).isMap (unhide HG5))
        have K5 := hide ((unhide K4).trans (KpM.of_grown (b := b) (p := p) (q := q) (unhide HG5)))
        have N5 : Hid (NamedAt W5 b (N + k * 13 ^ r + 1) L (ids ++ [s1])) := hide ⟨_, unhide HU5, by
          have h1 := hM.put (a := s1) hown.isMap (unhide HS1)
          rw [unhide HAT] at h1
          exact h1⟩
        have S5 := hide (starsM (unhide S1) (unhide K5) hA)
        have D5 := hide (dirsM (unhide D1) (unhide K5) hB)
        have hw5 : w.heap.size + 1 ≤ W5.heap.size := Nat.le_trans hw4 (unhide HG5).size
        have HLN : Hid (((ids ++ [s1]).length : Int) = (ids.length : Int) + 1) := hide (by simp)
        have cI := hide (fun (j : Nat) => unhide HIH (ids ++ [s1]) (pre ++ partN (fitF L S) (L.map (·.1)) r ids k) (N + k * 13 ^ r + 1) j W5 (by rw [List.length_append, List.length_singleton]; omega) (by
          have h1 : k * 13 ^ r ≤ 11 * 13 ^ r := Nat.mul_le_mul_right _ (by omega)
          rw [Nat.pow_succ] at hN13
          have h3 : 0 < 13 ^ r := Nat.pow_pos (by decide)
          generalize 13 ^ r = c at *
          generalize k * c = kc at *
          omega) (unhide N5) (unhide S5) (unhide D5) (by omega) (by omega) (unhide J5))
        rw [unhide HLN] at cI
        clear c0 c1 c2 e0 e1 e2 e3 J4 N4 K4 C4 E4 HU5 hown hM HG5 J5 N5 S5 D5
        refine ⟨trivial, fun h => (by cases h), ?_⟩
        refine (unhide cI _).mono ?_
        rintro e W6 ⟨rfl, hJ6, hN6, hK6⟩
        have J6 := hide hJ6
        have K6 := hide ((unhide K5).trans hK6)
        have C6 := hide ((unhide C5).keptM hK6 (by omega) (by omega) (by omega))
        have N6 := hide hN6
        have hw6 : w.heap.size + 1 ≤ W6.heap.size := Nat.le_trans hw5 hK6.size
        clear x0 x1 x2 hJ6 hN6 hK6 K5 C5 cI
        obtain ⟨x0, x1, x2⟩ := unhide C6
        obtain ⟨D6, hown6, hM6⟩ := unhide N6
        gi_wp2_with (gi_at_delete; refine wpListIn_delete_own _ rfl _ _ 76 3 rfl 46 (Maps.int_keyed Tryd.underlying3) Tryd.underlying76 starE b _ D6 rfl hown6 _ (.int .i64 (ids.length : Int)) rfl (keyI ids.length (by omega)) ?_; intro W7 hown7 ht7; have HU7 := hide hown7; have HG7 := hide ht7.grown; clear hown7 ht7)
        have J7 : Hid (J (pre ++ partN (fitF L S) (L.map (·.1)) r ids (k + 1)) W7) := hide (by rw [unhide HR, ← List.append_assoc]; exact unhide HJA _ _ _ (unhide J6) (unhide N6).isMap (unhide HG7))
        have K7 := hide ((unhide K6).trans (KpM.of_grown (b := b) (p := p) (q := q) (unhide HG7)))
        have N7 : Hid (NamedAt W7 b (N + (k + 1) * 13 ^ r) L ids) := hide ⟨_, (unhide HU7).mono (by
          have h3 : 0 < 13 ^ r := Nat.pow_pos (by decide)
          rw [Nat.succ_mul]
          generalize 13 ^ r = c at *
          generalize k * c = kc at *
          omega), hM6.del⟩
        clear x0 x1 x2 J6 K6 C6 N6 hown6 hM6 HU7 HG7
        gi_wp2
        go_roundw
        case rel => first | exact ⟨k + 1, by omega, by go_num, J7, N7, K7⟩ | exact ⟨k + 1, by omega, by go_num, J7, N7⟩ | trace_state
        case measure => simp [intOf]; omega
    · obtain rfl : k = L.length := by omega
      have HLN : Hid (((ids ++ [(0 : Int)]).length : Int) = (ids.length : Int) + 1) := hide (by simp)
      have N5 : Hid (NamedAt wr b (N + L.length * 13 ^ r) L (ids ++ [0])) := hide (by obtain ⟨D, h1, h2⟩ := unhide HNr; exact ⟨D, h1, h2.snoc0⟩)
      have cI := hide (fun (j : Nat) => unhide HIH (ids ++ [0]) (pre ++ partN (fitF L S) (L.map (·.1)) r ids L.length) (N + L.length * 13 ^ r) j wr (by rw [List.length_append, List.length_singleton]; omega) (by
        have h1 : L.length * 13 ^ r ≤ 12 * 13 ^ r := Nat.mul_le_mul_right _ hn12
        rw [Nat.pow_succ] at hN13
        generalize 13 ^ r = c at *
        generalize L.length * c = kc at *
        omega) (unhide N5) (unhide Sr) (unhide Dr) (by omega) (by omega) (unhide HJr))
      rw [unhide HLN] at cI
      gi_wp2
      refine ⟨trivial, fun h => (by cases h), ?_⟩
      refine (unhide cI _).mono ?_
      rintro e W6 ⟨rfl, hJ6, hN6, hK6⟩
      have J6 := hide hJ6
      have N6 := hide hN6
      have K6 := hide (((unhide HK0).trans (unhide HKr)).trans hK6)
      clear hJ6 hN6 hK6 cI N5 c0 c1 c2
      gi_wp2
      go_ret
      refine ⟨rfl, ?_, ?_, unhide K6⟩
      · rw [allN_node, ← List.append_assoc, List.length_map]
        exact unhide J6
      · obtain ⟨D, h1, h2⟩ := unhide N6
        refine ⟨D, h1.mono ?_, fun i hi => ?_⟩
        · have h3 : L.length * 13 ^ r ≤ 12 * 13 ^ r := Nat.mul_le_mul_right _ hn12
          have h4 : 0 < 13 ^ r := Nat.pow_pos (by decide)
          rw [Nat.pow_succ]
          generalize 13 ^ r = c at *
          generalize L.length * c = kc at *
          omega
        · have h5 := h2 i hi
          unfold nameSt at h5 ⊢
          rw [getD_snoc0] at h5
          exact h5
theorem goOn_all (L : List St) (S : List D3) (ar br : Option Addr) (cr dr b l p q : Nat) (J : List (List Int) → World → Prop) (hk : skyB L = true) (hm : S.length ≤ 6) (hJ : JAb b J) (hY : RoundOk l p q J) (hbp : b ≠ p) (hbq : b ≠ q) (hA : Apart3 ar b p q) (hB : Apart3 br b p q) : ∀ r, GoOk L S ar br cr dr b l p q J r
  | 0 => goOn_zero L S ar br cr dr b l p q J hm hJ hY hbp hbq
  | r + 1 => goOn_succ L S ar br cr dr b l p q r J hk hm hJ hbp hbq hA hB (goOn_all L S ar br cr dr b l p q J hk hm hJ hY hbp hbq hA hB r)
end Go.Proofs.YtjdehbpgdplolaaDoor
