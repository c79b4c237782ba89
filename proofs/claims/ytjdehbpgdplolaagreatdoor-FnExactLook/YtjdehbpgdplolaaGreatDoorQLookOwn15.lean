/- Several texts in one: IeO, IeQ, IeR, IeS, IeT. -/
import Derived.Test.YtjdehbpgdplolaaGreatDoorQLookOwn14
namespace Go.Proofs.YtjdehbpgdplolaaGreatDoor
open Go.RowKit Go.Sort Go.Shelf
set_option linter.unusedVariables false
attribute [local go_sem] Oper.semAt_some

theorem SrAt.keptM {b p q : Nat} {w w' : World} {c : Nat} {v0 v1 v2 : Value} (h : SrAt w c v0 v1 v2) (hg : KpM b p q w w') (n0 : c ≠ b) (n1 : c ≠ p) (n2 : c ≠ q) : SrAt w' c v0 v1 v2 := ⟨hg.cell h.1 n0 n1 n2, hg.cell h.2.1 n0 n1 n2, hg.cell h.2.2 n0 n1 n2⟩
set_option maxHeartbeats 8000000 in
set_option maxRecDepth 100000 in
theorem goOn_succ (L : List St) (S : List D3) (ar br : Option Addr) (cr dr b l p q r : Nat) (J : List (List Int) → World → Prop) (hk : skyB L = true) (hm : S.length ≤ 6) (hJ : JAb b J) (hbp : b ≠ p) (hbq : b ≠ q) (hA : Apart3 ar b p q) (hB : Apart3 br b p q) (ih : GoOk L S ar br cr dr b l p q J r) : GoOk L S ar br cr dr b l p q J (r + 1) := fun ids pre N n w hl hN13 hN hS hD hp hq hj => by
  have hn12 : L.length ≤ 12 := (sky_ok hk).1
  have B0 := below1 w (.cells #[.slice ar L.length cr, .slice br S.length dr, .map (some b)] 158)
  have C0 : SrAt (w.alloc (.cells #[.slice ar L.length cr, .slice br S.length dr, .map (some b)] 158)) w.heap.size (.slice ar L.length cr) (.slice br S.length dr) (.map (some b)) := by refine ⟨?_, ?_, ?_⟩ <;> simp
  have hbl : b < w.heap.size := by obtain ⟨D, hD, _⟩ := hN; exact hD.lt
  have cA := hide (fun (k : Nat) => (callsIn_wide (n := k)).2 (ahead_any L S ids ids.length ar br L.length cr dr b N _ hm (by omega) (hD.kept B0) (hN.below B0)))
  have HN := hide (hN.below B0)
  have HS := hide (hS.kept B0)
  have HD := hide (hD.kept B0)
  have HJ0 := hide (hJ _ _ _ hj hN.isMap (grownB1 B0))
  have HC := hide C0
  have HB0 := hide B0
  have HIH := hide ih
  have HJA := hide hJ
  have hne : ¬ (ids.length : Int) = (S.length : Int) := by omega
  have e16 : ((ids.length : Int) == (S.length : Int)) = false := by rw [beq_eq_false_iff_ne]; exact hne
  have hsz : (w.alloc (.cells #[.slice ar L.length cr, .slice br S.length dr, .map (some b)] 158)).heap.size = w.heap.size + 1 := by simp
  clear B0 C0 hN hS hD hj ih hJ
  refine callsIn_of_wp Tryz.func107 rfl trivial ?_ rfl
  simp only [Tryz.ntmps107, List.size_toArray, List.length_cons, List.length_nil, Nat.reduceAdd, Nat.reduceSub, Array.replicate_succ, Array.replicate_zero, List.push_toArray, List.append_toArray, List.nil_append, List.cons_append]
  gi_wp2
  refine ⟨trivial, fun h => (by cases h), ?_⟩
  generalize hW : w.alloc (.cells #[.slice ar L.length cr, .slice br S.length dr, .map (some b)] 158) = W at *
  clear hW
  refine (unhide cA _).mono ?_
  rintro e w1 ⟨⟨v, rfl, ho⟩, hx⟩
  obtain ⟨av, cv, rfl⟩ := own_form ho
  have HSi := hide (sights_own ho)
  have hcv := own_cap ho (by decide)
  have hcm := own_capMax ho
  have hm9 : maxLen ≤ 9223372036854775807 := by decide +kernel
  have hna := sights_len L S ids ids.length
  have HAp : Hid (Apart3 av b p q) := hide (fun y e => by
    rcases ho.2 with ⟨h1, _⟩ | ⟨g, c', cur, e', hb', _⟩
    · injection h1 with h1; rw [h1] at e; cases e
    · injection e' with e1; rw [e1] at e; cases e; exact ⟨by show g ≠ b; omega, by show g ≠ p; omega, by show g ≠ q; omega⟩)
  have N1 := hide ((unhide HN).below hx)
  have S1 := hide ((unhide HS).kept hx)
  have D1 := hide ((unhide HD).kept hx)
  have J1 := hide (unhide HJA _ _ _ (unhide HJ0) (unhide HN).isMap (grownB1 hx))
  have C1 := hide ((unhide HC).kept hx)
  have HK0 := hide (KpM.of_below (b := b) (p := p) (q := q) (below_call (unhide HB0) hx))
  have hw1 : w.heap.size + 1 ≤ w1.heap.size := by have := hx.size; omega
  have HFE := hide (fit_same L S ids)
  generalize hsa : sightsTo L S ids ids.length = SA at *
  clear ho hx HN HS HD HJ0 HC HB0 cA hsz hsa
  obtain ⟨c0, c1, c2⟩ := unhide C1
  gi_wp2
  clear c0 c1 c2
  gi_loopw [27] (fun i wr => ∃ k : Nat, k ≤ L.length ∧ i = .int .i64 k ∧ Hid (J (pre ++ partN (fitF L S) (L.map (·.1)) r ids k) wr) ∧ Hid (NamedAt wr b (N + k * 13 ^ r) L ids) ∧ Hid (KpM b p q w1 wr)) (fun i _ => L.length - (intOf i).toNat)
  case atStart => exact ⟨0, Nat.zero_le _, rfl, hide (by rw [partN_zero, List.append_nil]; exact unhide J1), hide (by rw [Nat.zero_mul]; exact unhide N1), hide ⟨Nat.le_refl _, rfl, rfl, rfl, fun _ _ h _ _ _ _ => h⟩⟩
  case round =>
    clear J1 N1
    obtain ⟨k, hkl, rfl, HJr, HNr, HKr⟩ := hrel
    have Sr := hide (starsM (unhide S1) (unhide HKr) hA)
    have Dr := hide (dirsM (unhide D1) (unhide HKr) hB)
    have Cr := hide ((unhide C1).keptM (unhide HKr) (by omega) (by omega) (by omega))
    have Ar := hide (sightsM (unhide HSi) (unhide HKr) (unhide HAp))
    have hwr : w.heap.size + 1 ≤ wr.heap.size := Nat.le_trans hw1 (unhide HKr).size
    obtain ⟨c0, c1, c2⟩ := unhide Cr
    by_cases hkn : k < L.length
    · obtain ⟨⟨s1, s2, s3, s4⟩, hst⟩ : ∃ z, stA L k = z := ⟨_, rfl⟩
      have hsm1 := star_small hk hkn
      have hat := at_own hk hkn
      have HMA : Hid ((L.map (·.1)).getD k 0 = s1) := hide (by rw [map_at hkn, hst])
      rw [hst] at hsm1 hat
      have HAT := hide hat
      have HS1 := hide hsm1.2
      have hkn2 : (k : Int) < (L.length : Int) := by omega
      rcases unhide Sr with h0 | ⟨sb, so, rfl, hsb, hcs⟩
      · omega
      have hstar := hcs k hkn
      rw [hst] at hstar
      obtain ⟨d0, d1, d2, d3⟩ := hstar
      clear hsm1 hat hst hcs
      rcases unhide Dr with h0 | ⟨db, do', rfl, hdb, hcd⟩
      · omega
      obtain ⟨⟨v1, v2, v3⟩, hv⟩ : ∃ z, vA S ids.length = z := ⟨_, rfl⟩
      have hdir := hcd ids.length (by omega)
      rw [hv] at hdir
      have HV := hide hv
      obtain ⟨g0, g1, g2⟩ := hdir
      dsimp only at d0 d1 d2 d3 g0 g1 g2
      clear hcd hv
      have hpl : (ids.length : Int) < (S.length : Int) := by omega
      have Z2 := below1 wr (.cells #[.int .i64 s1, .int .i64 s2, .int .i64 s3, .int .i64 s4] 85)
      have E2 := hide (starAt_new wr (s1, s2, s3, s4) 85)
      have HB2 := hide Z2
      have y1 := cellK5 c1 Z2
      have y2 := cellK5 c2 Z2
      have z0 := cellK5 g0 Z2
      have z1 := cellK5 g1 Z2
      have z2 := cellK5 g2 Z2
      clear Z2
      gi_wp2
      clear c0 c1 c2 d0 d1 d2 d3 g0 g1 g2
      generalize hW2 : wr.alloc (.cells #[.int .i64 s1, .int .i64 s2, .int .i64 s3, .int .i64 s4] 85) = W2 at *
      clear hW2
      obtain ⟨e0, e1, e2, e3⟩ := unhide E2
      simp only [Nat.zero_add] at e0 e1 e2 e3
      have y1' := fun o => cellK5 y1 (below1 W2 o)
      have z0' := fun o => cellK5 z0 (below1 W2 o)
      have z1' := fun o => cellK5 z1 (below1 W2 o)
      have z2' := fun o => cellK5 z2 (below1 W2 o)
      have e0' := fun o => cellK5 e0 (below1 W2 o)
      have e1' := fun o => cellK5 e1 (below1 W2 o)
      have e2' := fun o => cellK5 e2 (below1 W2 o)
      have e3' := fun o => cellK5 e3 (below1 W2 o)
      gi_region
      have Z3 := (below1 W2 (.cells #[.int .i64 v1, .int .i64 v2, .int .i64 v3, .int .i64 s1, .int .i64 s2, .int .i64 s3, .int .i64 s4] 161))
      have Y3 : Below W2.heap.size W2 (W2.alloc (.cells #[.int .i64 v1, .int .i64 v2, .int .i64 v3, .int .i64 s1, .int .i64 s2, .int .i64 s3, .int .i64 s4] 161)).drew := Z3.drew
      have P3 : Hid (SgAt (W2.alloc (.cells #[.int .i64 v1, .int .i64 v2, .int .i64 v3, .int .i64 s1, .int .i64 s2, .int .i64 s3, .int .i64 s4] 161)).drew W2.heap.size 0 ((v1, v2, v3), (s1, s2, s3, s4))) := hide (sgAt_new W2 ((v1, v2, v3), (s1, s2, s3, s4)) 161)
      have E3 := hide ((unhide E2).kept (World.block_lt_of_cell? W2 _ e0) Y3)
      have HB3 := hide (below_call (unhide HB2) Y3)
      generalize hW3 : (W2.alloc (.cells #[.int .i64 v1, .int .i64 v2, .int .i64 v3, .int .i64 s1, .int .i64 s2, .int .i64 s3, .int .i64 s4] 161)).drew = W3 at *
      clear hW3 Z3 Y3 y1 y2 z0 z1 z2 e0 e1 e2 e3 y1' z0' z1' z2' e0' e1' e2' e3' E2 HB2
      have J3 := hide (unhide HJA _ _ _ (unhide HJr) (unhide HNr).isMap (grownB1 (unhide HB3)))
      have N3 := hide ((unhide HNr).below (unhide HB3))
      have K3 := hide ((unhide HKr).trans (KpM.of_below (b := b) (p := p) (q := q) (unhide HB3)))
      have A3 := hide ((unhide Ar).kept (unhide HB3))
      have C3 := hide ((unhide Cr).kept (unhide HB3))
      have hw3 : w.heap.size + 1 ≤ W3.heap.size := Nat.le_trans hwr (unhide HB3).size
      generalize W2.heap.size = nb at *
      obtain ⟨n0, n1, n2, n3, n4, n5, n6⟩ := unhide P3
      simp only [Nat.zero_add] at n0 n1 n2 n3 n4 n5 n6
      have cF := hide (fun (j : Nat) => (callsIn_wide (n := j)).2 (fitsBehind_any SA SA.length ((v1, v2, v3), (s1, s2, s3, s4)) av cv W3 (by omega) hcv (by omega) (unhide A3)))
      have HFV : Hid (fitsB SA ((v1, v2, v3), (s1, s2, s3, s4)) SA.length = fitF L S ids s1) := hide (by rw [unhide HFE s1, unhide HV, unhide HAT])
      rw [unhide HFV] at cF
      unfold sgV at cF
      dsimp only at cF
      gi_wp2
      refine ⟨trivial, fun h => (by cases h), ?_⟩
      refine (unhide cF _).mono ?_
      rintro e W4 ⟨rfl, hx⟩
      have J4 := hide (unhide HJA _ _ _ (unhide J3) (unhide N3).isMap (grownB1 hx))
      have N4 := hide ((unhide N3).below hx)
      have K4 := hide ((unhide K3).trans (KpM.of_below (b := b) (p := p) (q := q) hx))
      have C4 := hide ((unhide C3).kept hx)
      have E4 := hide ((unhide E3).kept (World.block_lt_of_cell? W3 _ (unhide E3).1) hx)
      have hw4 : w.heap.size + 1 ≤ W4.heap.size := Nat.le_trans hw3 hx.size
      clear hx n0 n1 n2 n3 n4 n5 n6 J3 N3 K3 C3 E3 A3 cF P3 HJr HNr HKr Cr Ar Sr Dr HB3
      cases hfit : fitF L S ids s1
      · have HR : Hid (partN (fitF L S) (L.map (·.1)) r ids (k + 1) = partN (fitF L S) (L.map (·.1)) r ids k) := hide (by rw [partN_succ _ _ _ _ (by rw [List.length_map]; exact hkn), unhide HMA, hfit]; simp)
        have J5 : Hid (J (pre ++ partN (fitF L S) (L.map (·.1)) r ids (k + 1)) W4) := hide (by rw [unhide HR]; exact unhide J4)
        have N5 : Hid (NamedAt W4 b (N + (k + 1) * 13 ^ r) L ids) := hide (by obtain ⟨D, h1, h2⟩ := unhide N4; exact ⟨D, h1.mono (Nat.add_le_add_left (Nat.mul_le_mul_right _ (Nat.le_succ k)) _), h2⟩)
        gi_wp2
        go_roundw
        case rel => first | exact ⟨k + 1, by omega, by go_num, J5, N5, K4⟩ | trace_state
        case measure => simp [intOf]; omega
      · have HR : Hid (partN (fitF L S) (L.map (·.1)) r ids (k + 1) = partN (fitF L S) (L.map (·.1)) r ids k ++ allN (fitF L S) (L.map (·.1)) r (ids ++ [s1])) := hide (by rw [partN_succ _ _ _ _ (by rw [List.length_map]; exact hkn), unhide HMA, hfit]; rfl)
        obtain ⟨c0, c1, c2⟩ := unhide C4
        obtain ⟨e0, e1, e2, e3⟩ := unhide E4
        simp only [Nat.zero_add] at e0 e1 e2 e3
        obtain ⟨D, hown, hM⟩ := unhide N4
        have hNb : N + k * 13 ^ r < maxLen := by
          have h1 : k * 13 ^ r ≤ 12 * 13 ^ r := Nat.mul_le_mul_right _ (by omega)
          have h2 : 100000000 ≤ maxLen := by decide +kernel
          rw [Nat.pow_succ] at hN13
          have h3 : 0 < 13 ^ r := Nat.pow_pos (by decide)
          generalize 13 ^ r = c at *
          generalize k * c = kc at *
          omega
        gi_wp2_with (gi_at_mapUpdate; refine wpListIn_mapUpdate_own _ rfl _ _ _ 156 rfl 3 85 (Maps.int_keyed Tryz.underlying3) Tryz.underlying156 starE b (N + k * 13 ^ r) D rfl hown hNb _ _ (.int .i64 (ids.length : Int)) rfl rfl (keyI ids.length (by omega)) (starD (s1, s2, s3, s4)) [] (starE_mk (s1, s2, s3, s4)) ?_; intro W5 hown5 hg5; have HU5 := hide hown5; have HG5 := hide hg5; clear hown5 hg5; have C5 := hide ((unhide C4).keptM (KpM.of_grown (b := b) (p := p) (q := q) (unhide HG5)) (by omega) (by omega) (by omega)); obtain ⟨x0, x1, x2⟩ := unhide C5)
        have J5 := hide (unhide HJA _ _ _ (unhide J4) (unhide N4).isMap (unhide HG5))
        have K5 := hide ((unhide K4).trans (KpM.of_grown (b := b) (p := p) (q := q) (unhide HG5)))
        have N5 : Hid (NamedAt W5 b (N + k * 13 ^ r + 1) L (ids ++ [s1])) := hide ⟨_, unhide HU5, by
          have h1 := hM.put (a := s1) hown.isMap (unhide HS1)
          rw [unhide HAT] at h1
          exact h1⟩
        have S5 := hide (starsM (unhide S1) (unhide K5) hA)
        have D5 := hide (dirsM (unhide D1) (unhide K5) hB)
        have hw5 : w.heap.size + 1 ≤ W5.heap.size := Nat.le_trans hw4 (unhide HG5).size
        have HLN : Hid (((ids ++ [s1]).length : Int) = (ids.length : Int) + 1) := hide (by simp)
        have cI := hide (fun (j : Nat) => unhide HIH (ids ++ [s1]) (pre ++ partN (fitF L S) (L.map (·.1)) r ids k) (N + k * 13 ^ r + 1) j W5 (by rw [List.length_append, List.length_singleton]; omega) (by
          have h1 : k * 13 ^ r ≤ 11 * 13 ^ r := Nat.mul_le_mul_right _ (by omega)
          rw [Nat.pow_succ] at hN13
          have h3 : 0 < 13 ^ r := Nat.pow_pos (by decide)
          generalize 13 ^ r = c at *
          generalize k * c = kc at *
          omega) (unhide N5) (unhide S5) (unhide D5) (by omega) (by omega) (unhide J5))
        rw [unhide HLN] at cI
        clear c0 c1 c2 e0 e1 e2 e3 J4 N4 K4 C4 E4 HU5 hown hM HG5 J5 N5 S5 D5
        refine ⟨trivial, fun h => (by cases h), ?_⟩
        refine (unhide cI _).mono ?_
        rintro e W6 ⟨rfl, hJ6, hN6, hK6⟩
        have J6 := hide hJ6
        have K6 := hide ((unhide K5).trans hK6)
        have C6 := hide ((unhide C5).keptM hK6 (by omega) (by omega) (by omega))
        have N6 := hide hN6
        have hw6 : w.heap.size + 1 ≤ W6.heap.size := Nat.le_trans hw5 hK6.size
        clear x0 x1 x2 hJ6 hN6 hK6 K5 C5 cI
        obtain ⟨x0, x1, x2⟩ := unhide C6
        obtain ⟨D6, hown6, hM6⟩ := unhide N6
        gi_wp2_with (gi_at_delete; refine wpListIn_delete_own _ rfl _ _ 156 3 rfl 85 (Maps.int_keyed Tryz.underlying3) Tryz.underlying156 starE b _ D6 rfl hown6 _ (.int .i64 (ids.length : Int)) rfl (keyI ids.length (by omega)) ?_; intro W7 hown7 ht7; have HU7 := hide hown7; have HG7 := hide ht7.grown; clear hown7 ht7)
        have J7 : Hid (J (pre ++ partN (fitF L S) (L.map (·.1)) r ids (k + 1)) W7) := hide (by rw [unhide HR, ← List.append_assoc]; exact unhide HJA _ _ _ (unhide J6) (unhide N6).isMap (unhide HG7))
        have K7 := hide ((unhide K6).trans (KpM.of_grown (b := b) (p := p) (q := q) (unhide HG7)))
        have N7 : Hid (NamedAt W7 b (N + (k + 1) * 13 ^ r) L ids) := hide ⟨_, (unhide HU7).mono (by
          have h3 : 0 < 13 ^ r := Nat.pow_pos (by decide)
          rw [Nat.succ_mul]
          generalize 13 ^ r = c at *
          generalize k * c = kc at *
          omega), hM6.del⟩
        clear x0 x1 x2 J6 K6 C6 N6 hown6 hM6 HU7 HG7
        gi_wp2
        go_roundw
        case rel => first | exact ⟨k + 1, by omega, by go_num, J7, N7, K7⟩ | exact ⟨k + 1, by omega, by go_num, J7, N7⟩ | trace_state
        case measure => simp [intOf]; omega
    · obtain rfl : k = L.length := by omega
      have HLN : Hid (((ids ++ [(0 : Int)]).length : Int) = (ids.length : Int) + 1) := hide (by simp)
      have N5 : Hid (NamedAt wr b (N + L.length * 13 ^ r) L (ids ++ [0])) := hide (by obtain ⟨D, h1, h2⟩ := unhide HNr; exact ⟨D, h1, h2.snoc0⟩)
      have cI := hide (fun (j : Nat) => unhide HIH (ids ++ [0]) (pre ++ partN (fitF L S) (L.map (·.1)) r ids L.length) (N + L.length * 13 ^ r) j wr (by rw [List.length_append, List.length_singleton]; omega) (by
        have h1 : L.length * 13 ^ r ≤ 12 * 13 ^ r := Nat.mul_le_mul_right _ hn12
        rw [Nat.pow_succ] at hN13
        generalize 13 ^ r = c at *
        generalize L.length * c = kc at *
        omega) (unhide N5) (unhide Sr) (unhide Dr) (by omega) (by omega) (unhide HJr))
      rw [unhide HLN] at cI
      gi_wp2
      refine ⟨trivial, fun h => (by cases h), ?_⟩
      refine (unhide cI _).mono ?_
      rintro e W6 ⟨rfl, hJ6, hN6, hK6⟩
      have J6 := hide hJ6
      have N6 := hide hN6
      have K6 := hide (((unhide HK0).trans (unhide HKr)).trans hK6)
      clear hJ6 hN6 hK6 cI N5 c0 c1 c2
      gi_wp2
      go_ret
      refine ⟨rfl, ?_, ?_, unhide K6⟩
      · rw [allN_node, ← List.append_assoc, List.length_map]
        exact unhide J6
      · obtain ⟨D, h1, h2⟩ := unhide N6
        refine ⟨D, h1.mono ?_, fun i hi => ?_⟩
        · have h3 : L.length * 13 ^ r ≤ 12 * 13 ^ r := Nat.mul_le_mul_right _ hn12
          have h4 : 0 < 13 ^ r := Nat.pow_pos (by decide)
          rw [Nat.pow_succ]
          generalize 13 ^ r = c at *
          generalize L.length * c = kc at *
          omega
        · have h5 := h2 i hi
          unfold nameSt at h5 ⊢
          rw [getD_snoc0] at h5
          exact h5
theorem goOn_all (L : List St) (S : List D3) (ar br : Option Addr) (cr dr b l p q : Nat) (J : List (List Int) → World → Prop) (hk : skyB L = true) (hm : S.length ≤ 6) (hJ : JAb b J) (hY : RoundOk l p q J) (hbp : b ≠ p) (hbq : b ≠ q) (hA : Apart3 ar b p q) (hB : Apart3 br b p q) : ∀ r, GoOk L S ar br cr dr b l p q J r
  | 0 => goOn_zero L S ar br cr dr b l p q J hm hJ hY hbp hbq
  | r + 1 => goOn_succ L S ar br cr dr b l p q r J hk hm hJ hbp hbq hA hB (goOn_all L S ar br cr dr b l p q J hk hm hJ hY hbp hbq hA hB r)
end Go.Proofs.YtjdehbpgdplolaaGreatDoor

namespace Go.Proofs.YtjdehbpgdplolaaGreatDoor
open Go.RowKit Go.Sort Go.Shelf
set_option linter.unusedVariables false
attribute [local go_sem] Oper.semAt_some

theorem namedAt_made (w : World) (L : List St) : NamedAt (w.alloc (.map #[] 0)) w.heap.size 0 L [] := ⟨.map [], World.ownsMap_made w _ _ _, fun i hi => ⟨by simp [Maps.has], by unfold nameSt; simp; rfl⟩⟩
set_option maxHeartbeats 4000000 in
set_option maxRecDepth 100000 in
theorem clos_in (L : List St) (S : List D3) (ar br : Option Addr) (cr dr l p q s1 s2 n : Nat) (J : List (List Int) → World → Prop) (W : World) (hk : skyB L = true) (hm : S.length ≤ 6) (h1 : W.cell? ⟨s1, 0, none⟩ = some (.slice ar L.length cr)) (h2 : W.cell? ⟨s2, 0, none⟩ = some (.slice br S.length dr)) (hS : Stars W ar L L.length) (hD : Dirs W br S S.length) (hA : ∀ y, ar = some y → y.block < W.heap.size ∧ y.block ≠ p ∧ y.block ≠ q) (hB : ∀ y, br = some y → y.block < W.heap.size ∧ y.block ≠ p ∧ y.block ≠ q) (hp : p < W.heap.size) (hq : q < W.heap.size)
    (hJ : ∀ b, W.heap.size ≤ b → JAb b J) (hJn : ∀ pre W1 W2, J pre W1 → Below W1.heap.size W1 W2 → J pre W2) (hY : RoundOk l p q J) (h0 : J [] W) :
    CallsIn Fence.wide n Tryz.prog 106 #[.func (.yield l) #[] #[], .pointer (some ⟨s1, 0, none⟩), .pointer (some ⟨s2, 0, none⟩)] W fun e W' => (∃ v, e = .returned v) ∧ J (allN (fitF L S) (L.map (·.1)) S.length []) W' := by
  have hmm := @run_makeMap Tryz.prog
  refine callsIn_of_wp Tryz.func106 rfl trivial ?_ rfl
  simp only [Tryz.ntmps106, List.size_toArray, List.length_cons, List.length_nil, Nat.reduceAdd, Nat.reduceSub, Array.replicate_succ, Array.replicate_zero, List.push_toArray, List.append_toArray, List.nil_append, List.cons_append]
  gi_wp2
  refine ⟨trivial, fun h => (by cases h), ?_⟩
  have B1 := below2 W (.map #[] 0) (.cells #[.slice ar L.length cr, .slice br S.length dr, .map (some W.heap.size)] 158)
  have N1 := (namedAt_made W L).below (below1 _ (.cells #[.slice ar L.length cr, .slice br S.length dr, .map (some W.heap.size)] 158))
  have hz : ((W.alloc (.map #[] 0)).alloc (.cells #[.slice ar L.length cr, .slice br S.length dr, .map (some W.heap.size)] 158)).heap.size = W.heap.size + 2 := by simp
  refine (goOn_all L S ar br cr dr W.heap.size l p q J hk hm (hJ _ (Nat.le_refl _)) hY (by omega) (by omega) (fun y e => ⟨by have := (hA y e).1; omega, (hA y e).2⟩) (fun y e => ⟨by have := (hB y e).1; omega, (hB y e).2⟩) S.length [] [] 0 _ _ (by simp) (by have : 13 ^ S.length ≤ 13 ^ 6 := Nat.pow_le_pow_right (by decide) hm; omega) N1 (hS.kept B1) (hD.kept B1) (by omega) (by omega) (hJn _ _ _ h0 B1)).mono ?_
  rintro e W2 ⟨rfl, hJ2, _, _⟩
  have HJ2 := hide hJ2
  clear hJ2 N1 B1
  gi_wp2
  go_end0
  exact ⟨⟨_, rfl⟩, by simpa using unhide HJ2⟩
end Go.Proofs.YtjdehbpgdplolaaGreatDoor

namespace Go.Proofs.YtjdehbpgdplolaaGreatDoor
open Go.RowKit Go.Sort Go.Shelf
set_option linter.unusedVariables false
attribute [local go_sem] Oper.semAt_some

/-- what the two boxes hold: the naming that names most (none, or a row of its own), and how many name as many -/
structure BoxAt (W : World) (p q : Nat) (G : List Int × Nat) : Prop where
  most : ∃ v, W.heap[p]? = some (.cells #[v] 74 (0, 0)) ∧ ((G.1 = [] ∧ v = .slice none 0 0) ∨ ∃ g, v = .slice (some ⟨g, 0, none⟩) G.1.length G.1.length ∧ p ≤ g ∧ g ≠ p ∧ g ≠ q ∧ RowV W 2 g (G.1.length * 1) (numV G.1))
  alike : W.heap[q]? = some (.cells #[.int .i64 (wrap64 (G.2 : Int))] 2 (0, 0))
  len : G.1.length ≤ 6
/-- what the loop's rounds hold between two of them -/
structure GrJ (p q l d : Nat) (rec : Loop) (w0 : World) (pre : List (List Int)) (W : World) : Prop where
  box : BoxAt W p q (pre.foldl stepG ([], 0))
  rc : W.heap[l]? = some (.loop rec)
  df : W.heap[d]? = some (.deferred (some []))
  bel : Below w0.heap.size w0 W
theorem heap_kept {W W' : World} {k : Nat} {o : Obj} {row : Option Nat} (h : W.heap[k]? = some o) (hg : W.grownBy W' row) (hne : some k ≠ row) : W'.heap[k]? = some o := (hg.block k (Array.getElem?_eq_some_iff.1 h).1 hne).trans h
theorem BoxAt.grown {W W' : World} {p q : Nat} {G : List Int × Nat} {row : Option Nat} (h : BoxAt W p q G) (hg : W.grownBy W' row) (hne : ∀ k cs t f, W.heap[k]? = some (.cells cs t f) → some k ≠ row) : BoxAt W' p q G := by
  obtain ⟨⟨v, h1, h2⟩, h3, h4⟩ := h
  refine ⟨⟨v, heap_kept h1 hg (hne _ _ _ _ h1), ?_⟩, heap_kept h3 hg (hne _ _ _ _ h3), h4⟩
  rcases h2 with h2 | ⟨g, e, n0, n1, n2, cur, hc, hr⟩
  · exact .inl h2
  · exact .inr ⟨g, e, n0, n1, n2, cur, heap_kept hc hg (hne _ _ _ _ hc), hr⟩
theorem GrJ.abides {p q l d : Nat} {rec : Loop} {w0 : World} {b : Nat} (hb : w0.heap.size ≤ b) : JAb b (GrJ p q l d rec w0) := fun pre W W' h ⟨es, c, hm⟩ hg =>
  ⟨h.box.grown hg (fun k cs t f hk e => by have := Option.some.inj e; subst this; rw [hm] at hk; cases hk), heap_kept h.rc hg (fun e => by have e2 := Option.some.inj e; have h2 := h.rc; rw [e2, hm] at h2; cases h2), heap_kept h.df hg (fun e => by have e2 := Option.some.inj e; have h2 := h.df; rw [e2, hm] at h2; cases h2), h.bel.trans ⟨hg.os, hg.tape, hg.output, hg.size, fun k hk => hg.block k (Nat.lt_of_lt_of_le hk h.bel.size) (fun e => by have := Option.some.inj e; omega)⟩⟩
theorem GrJ.below {p q l d : Nat} {rec : Loop} {w0 : World} (pre : List (List Int)) (W W' : World) (h : GrJ p q l d rec w0 pre W) (hB : Below W.heap.size W W') : GrJ p q l d rec w0 pre W' := by
  have hg : W.grownBy W' none := ⟨hB.os, hB.tape, hB.output, hB.size, fun k hk _ => hB.block k hk⟩
  exact ⟨h.box.grown hg (fun k cs t f hk e => by cases e), heap_kept h.rc hg (by simp), heap_kept h.df hg (by simp), below_call h.bel hB⟩

/-- a loop over a function value that is never left early: what is behind it, out of the one call -/
theorem rangeWhole {P : Program} {n : Nat} {g : Operand} {ps : Array Tmp} {assign body : Code} {Q : Exit → Act → World → Prop} {a : Act} {w : World} {gf : Nat} {lb : Array Value} (hg : a.eval g = .func (.func gf) #[] lb) (eg : ∀ args w, (callFunc gf args).run P w = .ok (.enter gf args) w)
    (hc : ∀ (rec : Loop), rec.state = .ready → rec.pending = none → rec.tmps = a.tmps → rec.params = ps → rec.assign = assign → rec.body = body → CallsIn Fence.wide (n - 1) P gf (#[.func (.yield (w.heap.size + 1)) #[] #[]] ++ lb) ((w.alloc (.deferred (some []))).alloc (.loop rec)) fun e W' => (∃ v, e = .returned v) ∧ W'.heap[w.heap.size + 1]? = some (.loop rec) ∧ Q .normal { a with defers := { target := .collected w.heap.size, args := #[] } :: a.defers } (W'.putObj (w.heap.size + 1) (.loop { rec with state := .exhausted }))) :
    (Code.rangeFunc g ps assign body).wpIn Fence.wide n P Q a w := by
  refine wpIn_rangeFunc fun fn _ => ?_
  refine ⟨w.heap.size + 1, _, _, { target := .fn (.func gf) lb, args := #[.func (.yield (w.heap.size + 1)) #[] #[]] }, ?wa, gf, #[.func (.yield (w.heap.size + 1)) #[] #[]] ++ lb, ?wb, run_enterLoop_outer _ _ _ _ _, ?res, fun _ _ => trivial, ?inv, fun h => (by cases h), ?call⟩
  case res =>
    simp only [resolve, hg]
    simp [go_sem]
    rfl
  case inv =>
    simp [invoke, go_sem, eg]
    rfl
  case call =>
    refine (hc _ rfl rfl rfl rfl rfl rfl).mono ?_
    rintro e W' ⟨⟨v, rfl⟩, hl, hq⟩
    exact ⟨none, _, run_endLoop hl (by simp), hq⟩
end Go.Proofs.YtjdehbpgdplolaaGreatDoor

namespace Go.Proofs.YtjdehbpgdplolaaGreatDoor
open Go.RowKit Go.Sort Go.Shelf
set_option linter.unusedVariables false
attribute [local go_sem] Oper.semAt_some

theorem wrap_one (a : Int) : wrap64 (wrap64 a + 1) = wrap64 (a + 1) := by unfold wrap64; omega
theorem wrap_step (a : Nat) : wrap64 (wrap64 (a : Int) + 1) = wrap64 ((a + 1 : Nat) : Int) := by rw [wrap_one]; rfl
theorem box_cell {W : World} {p : Nat} {v : Value} {t : TypeId} (h : W.heap[p]? = some (.cells #[v] t (0, 0))) : W.cell? ⟨p, 0, none⟩ = some v ∧ W.frozen? ⟨p, 0, none⟩ = false := by
  constructor <;> simp [World.cell?, World.frozen?, h]
theorem kpx_put {p q l : Nat} {W : World} {o o' : Obj} (h : W.heap[l]? = some o) (h1 : o.isCells = false) (h2 : o.isWalk = false) : KpX p q W (W.putObj l o') :=
  ⟨by simp, rfl, rfl, rfl, fun k ob hk ho _ _ => by
    have hne : k ≠ l := fun e => by subst e; rw [h] at hk; cases hk; rcases ho with ho | ho <;> simp_all
    exact (World.putObj_heap_other hne).trans hk⟩
theorem kpx_set {p q x : Nat} (W : World) (v : Value) (hx : x = p ∨ x = q) : KpX p q W (W.setCell ⟨x, 0, none⟩ v) :=
  ⟨by simp, rfl, rfl, rfl, fun k o hk _ h1 h2 => by rw [Below.heap_setCell W ⟨x, 0, none⟩ v k (by show k ≠ x; rcases hx with rfl | rfl <;> assumption)]; exact hk⟩
theorem box_set {W : World} {x : Nat} {u : Value} {t : TypeId} (h : W.heap[x]? = some (.cells #[u] t (0, 0))) (v : Value) : (W.setCell ⟨x, 0, none⟩ v).heap[x]? = some (.cells #[v] t (0, 0)) := by
  have := heap_setCell_same W x 0 #[u] t v h
  simpa using this
theorem far_set {W : World} {x k : Nat} {o : Obj} (h : W.heap[k]? = some o) (hne : k ≠ x) (v : Value) : (W.setCell ⟨x, 0, none⟩ v).heap[k]? = some o := by rw [Below.heap_setCell W ⟨x, 0, none⟩ v k hne]; exact h
theorem row_far {W : World} {x g m : Nat} {t : TypeId} {f : Nat → Value} (h : RowV W t g m f) (hne : g ≠ x) (v : Value) : RowV (W.setCell ⟨x, 0, none⟩ v) t g m f := by
  obtain ⟨cur, hc, hr⟩ := h
  exact ⟨cur, far_set hc hne v, hr⟩
/-- a round's end: the record is ready again -/
theorem round_end {p q l d : Nat} {rec rb : Loop} {w W V V' : World} {pre : List (List Int)} {xi : List Int} (hJ : GrJ p q l d rec w pre W) (hV : W.putObj l (.loop rb) = V) (hrb : ({ rb with state := .ready, pending := none } : Loop) = rec) (hlw : w.heap.size ≤ l) (hld : l ≠ d)
    (hb : BoxAt V' p q (stepG (pre.foldl stepG ([], 0)) xi)) (hl : V'.heap[l]? = some (.loop rb)) (hd : V'.heap[d]? = some (.deferred (some []))) (hB : Below w.heap.size V V') (hk : KpX p q V V') :
    ∃ v w', (Instr.endRound l none).run Tryz.prog V' = .ok v w' ∧ (Ending.returned v = .returned (.bool true) ∧ GrJ p q l d rec w (pre ++ [xi]) w' ∧ KpX p q W w') := by
  have he := run_endRound (P := Tryz.prog) none hl
  have hrb' : ({ rb with state := if (none : Option Code).isNone then .ready else .done, pending := none } : Loop) = rec := hrb
  rw [hrb'] at he
  have hg := grownBy_putObj' V' l (.loop rec)
  have hnc : ∀ k cs t f, V'.heap[k]? = some (.cells cs t f) → some k ≠ some l := fun k cs t f hk e => by have := Option.some.inj e; rw [this, hl] at hk; cases hk
  refine ⟨_, _, he, rfl, ⟨?_, World.putObj_heap_same (Array.getElem?_eq_some_iff.1 hl).1, heap_kept hd hg (fun e => hld (Option.some.inj e).symm), ?_⟩, ?_⟩
  · rw [List.foldl_append]
    exact hb.grown hg hnc
  · have b1 : Below w.heap.size W V := hV ▸ ((Below.refl w.heap.size W).grown (grownBy_putObj' W l (.loop rb)) hJ.bel.size (fun k e => by cases e; exact hlw))
    exact ((hJ.bel.trans b1).trans hB).trans ((Below.refl w.heap.size V').grown hg (Nat.le_trans hJ.bel.size (Nat.le_trans b1.size hB.size)) (fun k e => by cases e; exact hlw))
  · have k1 : KpX p q W V := hV ▸ kpx_put hJ.rc rfl rfl
    exact (k1.trans hk).trans (kpx_put hl rfl rfl)
set_option maxHeartbeats 8000000 in
set_option maxRecDepth 100000 in
theorem greatest_any (L : List St) (S : List D3) (ar br : Option Addr) (cr dr s1 s2 : Nat) (w : World) (hk : skyB L = true) (hm : S.length ≤ 6) (h1 : w.cell? ⟨s1, 0, none⟩ = some (.slice ar L.length cr)) (h2 : w.cell? ⟨s2, 0, none⟩ = some (.slice br S.length dr)) (hS : Stars w ar L L.length) (hD : Dirs w br S S.length) (hA : ∀ y, ar = some y → y.block < w.heap.size) (hB : ∀ y, br = some y → y.block < w.heap.size) (n : Nat) :
    CallsIn Fence.wide n Tryz.prog 94 #[.func (.func 106) #[] #[.pointer (some ⟨s1, 0, none⟩), .pointer (some ⟨s2, 0, none⟩)]] w fun e w' => (∃ v, e = .returned (.tuple #[v, .int .i64 (wrap64 ((greatR L S).2 : Int))]) ∧ (((greatR L S).1 = [] ∧ v = .slice none 0 0) ∨ ∃ g, v = .slice (some ⟨g, 0, none⟩) (greatR L S).1.length (greatR L S).1.length ∧ w.heap.size ≤ g ∧ RowV w' 2 g ((greatR L S).1.length * 1) (numV (greatR L S).1))) ∧ Below w.heap.size w w' ∧ (greatR L S).1.length ≤ 6 := by
  refine callsIn_of_wp_marks Tryz.func94 rfl trivial ?_ rfl
  simp only [Tryz.ntmps94, List.size_toArray, List.length_cons, List.length_nil, Nat.reduceAdd, Nat.reduceSub, Array.replicate_succ, Array.replicate_zero, List.push_toArray, List.append_toArray, List.nil_append, List.cons_append]
  gi_wp2
  have B0 := below2 w (.cells #[.slice none 0 0] 74) (.cells #[.int .i64 0] 2)
  have hz0 : ((w.alloc (.cells #[.slice none 0 0] 74)).alloc (.cells #[.int .i64 0] 2)).heap.size = w.heap.size + 2 := by simp
  have hp0 : ((w.alloc (.cells #[.slice none 0 0] 74)).alloc (.cells #[.int .i64 0] 2)).heap[w.heap.size]? = some (.cells #[.slice none 0 0] 74 (0, 0)) := (Below.heap_alloc _ _ _ (by simp)).trans (World.alloc_heap_new w _)
  have hq0 : ((w.alloc (.cells #[.slice none 0 0] 74)).alloc (.cells #[.int .i64 0] 2)).heap[w.heap.size + 1]? = some (.cells #[.int .i64 0] 2 (0, 0)) := by
    have := World.alloc_heap_new (w.alloc (.cells #[.slice none 0 0] 74)) (.cells #[.int .i64 0] 2)
    rw [World.size_alloc] at this
    exact this
  generalize hW0 : (w.alloc (.cells #[.slice none 0 0] 74)).alloc (.cells #[.int .i64 0] 2) = W0 at *
  clear hW0
  refine rangeWhole rfl (enters_of Tryz.func106 (by kernel_rfl) rfl) ?_
  intro rec hst hpe htm hpa has hbo
  have B1 : Below W0.heap.size W0 ((W0.alloc (.deferred (some []))).alloc (.loop rec)) := below2 W0 _ _
  have hz1 : ((W0.alloc (.deferred (some []))).alloc (.loop rec)).heap.size = w.heap.size + 4 := by simp; omega
  have hl1 : ((W0.alloc (.deferred (some []))).alloc (.loop rec)).heap[W0.heap.size + 1]? = some (.loop rec) := by
    have := World.alloc_heap_new (W0.alloc (.deferred (some []))) (.loop rec)
    rw [World.size_alloc] at this
    exact this
  have hd1 : ((W0.alloc (.deferred (some []))).alloc (.loop rec)).heap[W0.heap.size]? = some (.deferred (some [])) := (Below.heap_alloc _ _ _ (by simp)).trans (World.alloc_heap_new W0 _)
  generalize hW1 : (W0.alloc (.deferred (some []))).alloc (.loop rec) = W1 at *
  clear hW1
  rw [hz0] at hl1 hd1 ⊢
  have Bw := below_call B0 B1
  have Jst : GrJ w.heap.size (w.heap.size + 1) (w.heap.size + 2 + 1) (w.heap.size + 2) rec w [] W1 := ⟨⟨⟨_, by rw [B1.block _ (by omega)]; exact hp0, .inl ⟨rfl, rfl⟩⟩, by rw [B1.block _ (by omega), hq0]; exact congrArg (fun z => some (Obj.cells #[Value.int .i64 z] 2 (0, 0))) (show (0 : Int) = wrap64 0 from (wrap_id (by omega) (by omega)).symm), by simp⟩, hl1, hd1, Bw⟩
  refine (clos_in L S ar br cr dr (w.heap.size + 2 + 1) w.heap.size (w.heap.size + 1) s1 s2 (n - 1) (GrJ w.heap.size (w.heap.size + 1) (w.heap.size + 2 + 1) (w.heap.size + 2) rec w) W1 hk hm (cellK5 h1 Bw) (cellK5 h2 Bw) (hS.kept Bw) (hD.kept Bw) (fun y e => by have := hA y e; omega) (fun y e => by have := hB y e; omega) (by omega) (by omega) (fun b hb => GrJ.abides (by omega)) GrJ.below ?round Jst).mono ?behind
  case round =>
    clear Jst B1 Bw hl1 hd1 hp0 hq0 B0
    intro m pre x W hJ hW0 hx hlen
    obtain ⟨xi, xg⟩ := x
    unfold namH at hx
    unfold namV
    dsimp only at hx hlen hW0 ⊢
    have hfar : w.heap.size ≤ xg := by
      obtain ⟨W0', hJ0, h0⟩ := hW0
      have := (Array.getElem?_eq_some_iff.1 hJ0.rc).1
      omega
    clear hW0
    refine ⟨rec.fn, _, rec.assign, rec.body, run_yield hJ.rc (by rw [hpa]; rfl), roundIn_of_wpIn trivial ?_⟩
    rw [has, hbo, htm, hpa]
    have hW2 := hJ.rc
    have hbeg := run_beginRound (P := Tryz.prog) hJ.rc hst
    have hG2 := grownBy_putObj' W (w.heap.size + 2 + 1) (.loop { rec with state := .busy })
    have hnc : ∀ k cs t f, W.heap[k]? = some (.cells cs t f) → some k ≠ some (w.heap.size + 2 + 1) := fun k cs t f hk e => by have := Option.some.inj e; rw [this, hJ.rc] at hk; cases hk
    have hBx := hJ.box.grown hG2 hnc
    have hX2 : RowV (W.putObj (w.heap.size + 2 + 1) (.loop { rec with state := .busy })) 2 xg (xi.length * 1) (numV xi) := by obtain ⟨cur, hc, hr⟩ := hx; exact ⟨cur, heap_kept hc hG2 (hnc _ _ _ _ hc), hr⟩
    have hl2 : (W.putObj (w.heap.size + 2 + 1) (.loop { rec with state := .busy })).heap[w.heap.size + 2 + 1]? = some (.loop { rec with state := .busy }) := World.putObj_heap_same (Array.getElem?_eq_some_iff.1 hJ.rc).1
    have HBx := hide hBx
    have HX := hide hX2
    have HL2 := hide hl2
    have HJ := hide hJ
    have HG2 := hide hG2
    have HRB : Hid (({ ({ rec with state := .busy } : Loop) with state := .ready, pending := none } : Loop) = rec) := hide (by cases rec; simp_all)
    clear hBx hX2 hl2 hJ hx hnc hG2 hW2 has hbo htm hpa hpe hst
    generalize hrb : ({ rec with state := .busy } : Loop) = rb at *
    clear hrb
    have cN := hide (fun (j : Nat) => CallsIn.inRound (w.heap.size + 2 + 1) ((callsIn_wide (n := j)).2 (countNamed_any xi (some ⟨xg, 0, none⟩) xi.length _ (by omega) (nums_of (unhide HX)))))
    gi_wp2
    refine ⟨trivial, fun h => (by cases h), ?_⟩
    refine (unhide cN _).mono ?_
    rintro e V1 ⟨rfl, hV1⟩
    generalize hV : W.putObj (w.heap.size + 2 + 1) (.loop rb) = V at *
    subst hV1
    obtain ⟨G, hG⟩ : ∃ G, pre.foldl stepG ([], 0) = G := ⟨_, rfl⟩
    rw [hG] at HBx
    have HG := hide hG
    clear hG hbeg cN
    obtain ⟨Gm, Ga⟩ := G
    obtain ⟨⟨vm, hvm, hmost⟩, halike, hlenG⟩ := unhide HBx
    dsimp only at hmost halike hlenG
    have HD2 : Hid (V1.heap[w.heap.size + 2]? = some (.deferred (some []))) := hide (by rw [← hV]; exact heap_kept (unhide HJ).df (grownBy_putObj' W _ _) (fun e => by have := Option.some.inj e; omega))
    have hV1s : w.heap.size + 4 ≤ V1.heap.size := by have := (Array.getElem?_eq_some_iff.1 (unhide HL2)).1; omega
    obtain ⟨am, cm, hvf, hnm⟩ : ∃ am cm, vm = .slice am Gm.length cm ∧ Nums V1 am Gm Gm.length := by
      rcases hmost with ⟨e1, e2⟩ | ⟨g, e, _, _, _, hr⟩
      · exact ⟨none, 0, by rw [e1, e2]; rfl, .inl (by rw [e1]; rfl)⟩
      · exact ⟨_, _, e, nums_of hr⟩
    subst hvf
    have HM := hide hmost
    have HVM := hide hvm
    have HAL := hide halike
    obtain ⟨m0, m1⟩ := box_cell hvm
    obtain ⟨a0, a1⟩ := box_cell halike
    have cM := hide (fun (j : Nat) => CallsIn.inRound (w.heap.size + 2 + 1) ((callsIn_wide (n := j)).2 (countNamed_any Gm am cm V1 (by omega) hnm)))
    have HSame : Hid (stepG (Gm, Ga) xi = (Gm, Ga) → ∃ v w', (Instr.endRound (w.heap.size + 2 + 1) none).run Tryz.prog V1 = .ok v w' ∧ (Ending.returned v = .returned (.bool true) ∧ GrJ w.heap.size (w.heap.size + 1) (w.heap.size + 2 + 1) (w.heap.size + 2) rec w (pre ++ [xi]) w' ∧ KpX w.heap.size (w.heap.size + 1) W w')) := hide (fun e => round_end (unhide HJ) hV (unhide HRB) (by omega) (by omega) (by rw [unhide HG, e]; exact unhide HBx) (unhide HL2) (unhide HD2) (Below.refl _ _) ⟨Nat.le_refl _, rfl, rfl, rfl, fun _ _ h _ _ _ => h⟩)
    clear hmost hvm halike hnm
    by_cases c3 : cntN xi < 3
    · have c3' : (cntN xi : Int) < 3 := by omega
      gi_wp2
      refine ⟨trivial, ?_⟩
      gi_wp2
      exact unhide HSame (by unfold stepG; rw [if_pos (.inl c3)])
    have c3' : ¬ (cntN xi : Int) < 3 := by omega
    gi_wp2
    refine ⟨trivial, fun h => (by cases h), ?_⟩
    refine (unhide cM _).mono ?_
    rintro e V2 ⟨rfl, hV2⟩
    rw [hV2]
    clear hV2 V2
    by_cases c4 : cntN xi < cntN Gm
    · have c4' : (cntN xi : Int) < (cntN Gm : Int) := by omega
      gi_wp2
      exact unhide HSame (by unfold stepG; rw [if_pos (.inr c4)])
    have c4' : ¬ (cntN xi : Int) < (cntN Gm : Int) := by omega
    gi_wp2
    refine ⟨trivial, fun h => (by cases h), ?_⟩
    refine (unhide cM _).mono ?_
    rintro e V2 ⟨rfl, hV2⟩
    rw [hV2]
    clear hV2 V2
    have hxl : 3 ≤ xi.length := by have := cntN_le xi; omega
    have hxp : xg ≠ w.heap.size := fun e => by
      obtain ⟨cur, hc, _⟩ := unhide HX
      have h5 := unhide HVM
      rw [← e, hc] at h5
      simp at h5
    have hxq : xg ≠ w.heap.size + 1 := fun e => by
      obtain ⟨cur, hc, hr⟩ := unhide HX
      have h5 := unhide HAL
      rw [← e, hc] at h5
      simp at h5
      have h6 := hr 1 (by omega)
      rw [h5] at h6
      simp at h6
    by_cases c5 : cntN Gm < cntN xi
    · have c5' : (cntN Gm : Int) < (cntN xi : Int) := by omega
      gi_wp2
      have hst : stepG (Gm, Ga) xi = (xi, 1) := by unfold stepG; dsimp only; rw [if_neg (by rintro (h | h) <;> omega), if_pos c5]
      refine round_end (unhide HJ) hV (unhide HRB) (by omega) (by omega) ?_ (far_set (far_set (unhide HL2) (by omega) _) (by omega) _) (far_set (far_set (unhide HD2) (by omega) _) (by omega) _) (((Below.refl w.heap.size V1).setCell (p := ⟨w.heap.size, 0, none⟩) (Nat.le_refl _) _).setCell (p := ⟨w.heap.size + 1, 0, none⟩) (by show w.heap.size ≤ w.heap.size + 1; omega) _) ((kpx_set V1 _ (.inl rfl)).trans (kpx_set _ _ (.inr rfl)))
      rw [unhide HG, hst]
      refine ⟨⟨_, far_set (box_set (unhide HVM) _) (by omega) _, .inr ⟨xg, rfl, hfar, hxp, hxq, row_far (row_far (unhide HX) hxp _) hxq _⟩⟩, ?_, hlen⟩
      have h7 := box_set (far_set (x := w.heap.size) (unhide HAL) (by omega) (Value.slice (some ⟨xg, 0, none⟩) xi.length xi.length)) (Value.int .i64 1)
      rw [show wrap64 (((xi, 1) : List Int × Nat).2 : Int) = 1 from wrap_id (n := 1) (by omega) (by omega)]
      exact h7
    · have c5' : ¬ (cntN Gm : Int) < (cntN xi : Int) := by omega
      gi_wp2
      have hst : stepG (Gm, Ga) xi = (Gm, Ga + 1) := by unfold stepG; dsimp only; rw [if_neg (by rintro (h | h) <;> omega), if_neg c5]
      refine round_end (unhide HJ) hV (unhide HRB) (by omega) (by omega) ?_ (far_set (unhide HL2) (by omega) _) (far_set (unhide HD2) (by omega) _) ((Below.refl w.heap.size V1).setCell (p := ⟨w.heap.size + 1, 0, none⟩) (by show w.heap.size ≤ w.heap.size + 1; omega) _) (kpx_set V1 _ (.inr rfl))
      rw [unhide HG, hst]
      refine ⟨⟨_, far_set (unhide HVM) (by omega) _, ?_⟩, ?_, hlenG⟩
      · rcases unhide HM with h | ⟨g, e, n0, n1, n2, hr⟩
        · exact .inl h
        · exact .inr ⟨g, e, n0, n1, n2, row_far hr n2 _⟩
      · have h7 := box_set (unhide HAL) (Value.int .i64 (wrap64 (wrap64 (Ga : Int) + 1)))
        rw [h7]
        have e8 : wrap64 (wrap64 (Ga : Int) + 1) = wrap64 (((Gm, Ga + 1) : List Int × Nat).2 : Int) := by
          show wrap64 (wrap64 (Ga : Int) + 1) = wrap64 ((Ga + 1 : Nat) : Int)
          exact wrap_step Ga
        rw [e8]
  case behind =>
    rintro e W' ⟨⟨v, rfl⟩, hJ⟩
    refine ⟨⟨_, rfl⟩, hJ.rc, ?_⟩
    have hne : ∀ k cs t f, W'.heap[k]? = some (.cells cs t f) → some k ≠ some (w.heap.size + 2 + 1) := fun k cs t f hk e => by have := Option.some.inj e; rw [this, hJ.rc] at hk; cases hk
    have hBx := fun o => hJ.box.grown (grownBy_putObj' W' (w.heap.size + 2 + 1) o) hne
    have HBx := hide hBx
    have HDf := hide (fun o => heap_kept hJ.df (grownBy_putObj' W' (w.heap.size + 2 + 1) o) (fun e => by have := Option.some.inj e; omega))
    have HBl := hide (fun o => hJ.bel.trans ((Below.refl w.heap.size W').grown (grownBy_putObj' W' (w.heap.size + 2 + 1) o) hJ.bel.size (fun k e => by cases e; omega)))
    obtain ⟨⟨vm, hvm, hmost⟩, halike, hlen6⟩ := hJ.box
    have m0 := fun o => (box_cell (heap_kept hvm (grownBy_putObj' W' (w.heap.size + 2 + 1) o) (hne _ _ _ _ hvm))).1
    have a0 := fun o => (box_cell (heap_kept halike (grownBy_putObj' W' (w.heap.size + 2 + 1) o) (hne _ _ _ _ halike))).1
    have HM := hide hmost
    have HNe := hide hne
    clear hBx hvm hmost halike hne hJ B1 Bw hl1 hd1 hp0 hq0 B0 Jst has hbo htm hpa hpe hst
    gi_wp2
    gi_region
    gi_wp2
    refine ⟨by simp, .inl ⟨w.heap.size + 2, _, rfl, run_takeDeferred (unhide HDf _), ?_⟩⟩
    have HBy := hide (fun o => (unhide HBl o).drew.trans ((Below.refl w.heap.size _).grown (grownBy_putObj' (W'.putObj (w.heap.size + 2 + 1) o).drew (w.heap.size + 2) (.deferred none)) (unhide HBl o).size (fun k e => by cases e; omega)))
    refine ⟨_, by simp [results, go_sem]; rfl, ⟨vm, rfl, ?_⟩, unhide HBy _, hlen6⟩
    rcases unhide HM with h | ⟨g, e, n0, n1, n2, hr⟩
    · exact .inl h
    · refine .inr ⟨g, e, n0, ?_⟩
      obtain ⟨cur, hc, hr⟩ := hr
      have k1 := fun o => heap_kept hc (grownBy_putObj' W' (w.heap.size + 2 + 1) o) (unhide HNe _ _ _ _ hc)
      have hgd : g ≠ w.heap.size + 2 := fun e => by
        have h2 := unhide HDf (.deferred none)
        have h3 := k1 (.deferred none)
        rw [e, h2] at h3
        cases h3
      have k2 : ∀ o, ((W'.putObj (w.heap.size + 2 + 1) o).drew.putObj (w.heap.size + 2) (.deferred none)).heap[g]? = some (.cells cur 2 (0, 0)) := fun o => (World.putObj_heap_other hgd).trans (k1 o)
      exact ⟨cur, k2 _, hr⟩
end Go.Proofs.YtjdehbpgdplolaaGreatDoor

namespace Go.Proofs.YtjdehbpgdplolaaGreatDoor
open Go.RowKit Go.Sort Go.Shelf
set_option linter.unusedVariables false

set_option maxHeartbeats 4000000 in
set_option maxRecDepth 100000 in
theorem namings_any (L : List St) (S : List D3) (ar br : Option Addr) (cr dr : Nat) (w : World) :
    Calls Tryz.prog 95 #[.slice ar L.length cr, .slice br S.length dr] w fun e w' => e = .returned (.func (.func 106) #[] #[.pointer (some ⟨w.heap.size, 0, none⟩), .pointer (some ⟨w.heap.size + 1, 0, none⟩)]) ∧ w'.cell? ⟨w.heap.size, 0, none⟩ = some (.slice ar L.length cr) ∧ w'.cell? ⟨w.heap.size + 1, 0, none⟩ = some (.slice br S.length dr) ∧ Below w.heap.size w w' := by
  go_enter Tryz.func95, Tryz.ntmps95
  go_wp2
  refine bodyPost_ret (v := .func (.func 106) #[] #[.pointer (some ⟨w.heap.size, 0, none⟩), .pointer (some ⟨w.heap.size + 1, 0, none⟩)]) (by simp [results, go_sem]) rfl ⟨rfl, ?_, ?_, below2 w _ _⟩
  · exact cellK5 (by simp) (below1 _ _)
  · have := World.alloc_heap_new (w.alloc (.cells #[.slice ar L.length cr] 30)) (.cells #[.slice br S.length dr] 38)
    rw [World.size_alloc] at this
    exact (box_cell this).1
end Go.Proofs.YtjdehbpgdplolaaGreatDoor
