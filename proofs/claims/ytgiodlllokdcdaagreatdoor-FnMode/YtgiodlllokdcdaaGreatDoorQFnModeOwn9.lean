/- Several texts in one: IeO, IeQ, IeR, IeS, IeT, IeU, IeV, RowR. -/
import Derived.Test.YtgiodlllokdcdaaGreatDoorQFnModeOwn8
import Derived.Test.YtgiodlllokdcdaaGreatDoorQFnModeOwn4
import Derived.Test.YtgiodlllokdcdaaGreatDoorQFnModeOwn5
import Derived.Test.YtgiodlllokdcdaaGreatDoorQFnModeOwn2
import Derived.Test.YtgiodlllokdcdaaGreatDoorQFnModeOwn3
namespace Go.Proofs.YtgiodlllokdcdaaGreatDoor
set_option linter.unusedVariables false
set_option linter.unusedSimpArgs false
set_option maxRecDepth 100000
set_option maxHeartbeats 8000000
section
open Go.RowKit Go.Sort Go.Shelf
attribute [local go_sem] Oper.semAt_some
theorem lj.keptM {b p q : Nat} {w w' : World} {c : Nat} {v0 v1 v2 : Value} (h : lj w c v0 v1 v2) (hg : KpM b p q w w') (n0 : c ≠ b) (n1 : c ≠ p) (n2 : c ≠ q) : lj w' c v0 v1 v2 := ⟨hg.cell h.1 n0 n1 n2, hg.cell h.2.1 n0 n1 n2, hg.cell h.2.2 n0 n1 n2⟩
theorem sw (L : List St) (S : List D3) (ar br : Option Addr) (cr dr b l p q r : Nat) (J : List (List Int) → World → Prop) (hk : aT L = true) (hm : S.length ≤ 6) (hJ : JAb b J) (hbp : b ≠ p) (hbq : b ≠ q) (hA : gC ar b p q) (hB : gC br b p q) (ih : ul L S ar br cr dr b l p q J r) : ul L S ar br cr dr b l p q J (r + 1) := fun ids pre N n w hl hN13 hN hS hD hp hq hj => by
 have hn12 : L.length ≤ 12 := (cx hk).1
 have B0 := an w (.cells #[.slice ar L.length cr, .slice br S.length dr, .map (some b)] 163)
 have C0 : lj (w.alloc (.cells #[.slice ar L.length cr, .slice br S.length dr, .map (some b)] 163)) w.heap.size (.slice ar L.length cr) (.slice br S.length dr) (.map (some b)) := by refine ⟨?_, ?_, ?_⟩ <;> simp
 have hbl : b < w.heap.size := by obtain ⟨D, hD, _⟩ := hN; exact hD.lt
 have cA := yz (fun (k : Nat) => (callsIn_wide (n := k)).2 (rT L S ids ids.length ar br L.length cr dr b N _ hm (by omega) (hD.kept B0) (hN.below B0)))
 have HN := yz (hN.below B0)
 have HS := yz (hS.kept B0)
 have HD := yz (hD.kept B0)
 have HJ0 := yz (hJ _ _ _ hj hN.isMap (bH B0))
 have HC := yz C0
 have HB0 := yz B0
 have HIH := yz ih
 have HJA := yz hJ
 have hne : ¬ (ids.length : Int) = (S.length : Int) := by omega
 have e16 : ((ids.length : Int) == (S.length : Int)) = false := by rw [beq_eq_false_iff_ne]; exact hne
 have hsz : (w.alloc (.cells #[.slice ar L.length cr, .slice br S.length dr, .map (some b)] 163)).heap.size = w.heap.size + 1 := by simp
 clear B0 C0 hN hS hD hj ih hJ
 refine callsIn_of_wp Tryz.func123 rfl trivial ?_ rfl
 simp only [Tryz.ntmps123, List.size_toArray, List.length_cons, List.length_nil, Nat.reduceAdd, Nat.reduceSub, Array.replicate_succ, Array.replicate_zero, List.push_toArray, List.append_toArray, List.nil_append, List.cons_append]
 gi_wp2
 refine ⟨trivial, fun h => (by cases h), ?_⟩
 generalize hW : w.alloc (.cells #[.slice ar L.length cr, .slice br S.length dr, .map (some b)] 163) = W at *
 clear hW
 refine (yy cA _).mono ?_
 rintro e w1 ⟨⟨v, rfl, ho⟩, hx⟩
 obtain ⟨av, cv, rfl⟩ := eM ho
 have HSi := yz (iY ho)
 have hcv := rH ho (by decide)
 have hcm := ma ho
 have hm9 : maxLen ≤ 9223372036854775807 := by decide +kernel
 have hna := fl L S ids ids.length
 have HAp : Hid (gC av b p q) := yz (fun y e => by
  rcases ho.2 with ⟨h1, _⟩ | ⟨g, c', cur, e', hb', _⟩
  ·injection h1 with h1; rw [h1] at e; cases e
  ·injection e' with e1; rw [e1] at e; cases e; exact ⟨by show g ≠ b; omega, by show g ≠ p; omega, by show g ≠ q; omega⟩)
 have N1 := yz ((yy HN).below hx)
 have S1 := yz ((yy HS).kept hx)
 have D1 := yz ((yy HD).kept hx)
 have J1 := yz (yy HJA _ _ _ (yy HJ0) (yy HN).isMap (bH hx))
 have C1 := yz ((yy HC).kept hx)
 have HK0 := yz (KpM.of_below (b := b) (p := p) (q := q) (aj (yy HB0) hx))
 have hw1 : w.heap.size + 1 ≤ w1.heap.size := by have := hx.size; omega
 have HFE := yz (tv L S ids)
 generalize hsa : au L S ids ids.length = SA at *
 clear ho hx HN HS HD HJ0 HC HB0 cA hsz hsa
 obtain ⟨c0, c1, c2⟩ := yy C1
 gi_wp2
 clear c0 c1 c2
 gi_loopw [27] (fun i wr => ∃ k : Nat, k ≤ L.length ∧ i = .int .i64 k ∧ Hid (J (pre ++ fk (bV L S) (L.map (·.1)) r ids k) wr) ∧ Hid (bm wr b (N + k * 13 ^ r) L ids) ∧ Hid (KpM b p q w1 wr)) (fun i _ => L.length - (intOf i).toNat)
 case atStart => exact ⟨0, Nat.zero_le _, rfl, yz (by rw [qQ, List.append_nil]; exact yy J1), yz (by rw [Nat.zero_mul]; exact yy N1), yz ⟨Nat.le_refl _, rfl, rfl, rfl, fun _ _ h _ _ _ _ => h⟩⟩
 case round =>
  clear J1 N1
  obtain ⟨k, hkl, rfl, HJr, HNr, HKr⟩ := hrel
  have Sr := yz (uf (yy S1) (yy HKr) hA)
  have Dr := yz (uU (yy D1) (yy HKr) hB)
  have Cr := yz ((yy C1).keptM (yy HKr) (by omega) (by omega) (by omega))
  have Ar := yz (uI (yy HSi) (yy HKr) (yy HAp))
  have hwr : w.heap.size + 1 ≤ wr.heap.size := Nat.le_trans hw1 (yy HKr).size
  obtain ⟨c0, c1, c2⟩ := yy Cr
  by_cases hkn : k < L.length
  ·obtain ⟨⟨s1, s2, s3, s4⟩, hst⟩ : ∃ z, stA L k = z := ⟨_, rfl⟩
   have hsm1 := mz hk hkn
   have hat := qw hk hkn
   have HMA : Hid ((L.map (·.1)).getD k 0 = s1) := yz (by rw [tM hkn, hst])
   rw [hst] at hsm1 hat
   have HAT := yz hat
   have HS1 := yz hsm1.2
   have hkn2 : (k : Int) < (L.length : Int) := by omega
   rcases yy Sr with h0 | ⟨sb, so, rfl, hsb, hcs⟩
   ·omega
   have hstar := hcs k hkn
   rw [hst] at hstar
   obtain ⟨d0, d1, d2, d3⟩ := hstar
   clear hsm1 hat hst hcs
   rcases yy Dr with h0 | ⟨db, do', rfl, hdb, hcd⟩
   ·omega
   obtain ⟨⟨v1, v2, v3⟩, hv⟩ : ∃ z, vA S ids.length = z := ⟨_, rfl⟩
   have hdir := hcd ids.length (by omega)
   rw [hv] at hdir
   have HV := yz hv
   obtain ⟨g0, g1, g2⟩ := hdir
   dsimp only at d0 d1 d2 d3 g0 g1 g2
   clear hcd hv
   have hpl : (ids.length : Int) < (S.length : Int) := by omega
   have Z2 := an wr (.cells #[.int .i64 s1, .int .i64 s2, .int .i64 s3, .int .i64 s4] 80)
   have E2 := yz (eH wr (s1, s2, s3, s4) 80)
   have HB2 := yz Z2
   have y1 := ba c1 Z2
   have y2 := ba c2 Z2
   have z0 := ba g0 Z2
   have z1 := ba g1 Z2
   have z2 := ba g2 Z2
   clear Z2
   gi_wp2
   clear c0 c1 c2 d0 d1 d2 d3 g0 g1 g2
   generalize hW2 : wr.alloc (.cells #[.int .i64 s1, .int .i64 s2, .int .i64 s3, .int .i64 s4] 80) = W2 at *
   clear hW2
   obtain ⟨e0, e1, e2, e3⟩ := yy E2
   simp only [Nat.zero_add] at e0 e1 e2 e3
   have y1' := fun o => ba y1 (an W2 o)
   have z0' := fun o => ba z0 (an W2 o)
   have z1' := fun o => ba z1 (an W2 o)
   have z2' := fun o => ba z2 (an W2 o)
   have e0' := fun o => ba e0 (an W2 o)
   have e1' := fun o => ba e1 (an W2 o)
   have e2' := fun o => ba e2 (an W2 o)
   have e3' := fun o => ba e3 (an W2 o)
   gi_region
   have Z3 := (an W2 (.cells #[.int .i64 v1, .int .i64 v2, .int .i64 v3, .int .i64 s1, .int .i64 s2, .int .i64 s3, .int .i64 s4] 166))
   have Y3 : Below W2.heap.size W2 (W2.alloc (.cells #[.int .i64 v1, .int .i64 v2, .int .i64 v3, .int .i64 s1, .int .i64 s2, .int .i64 s3, .int .i64 s4] 166)).drew := Z3.drew
   have P3 : Hid (li (W2.alloc (.cells #[.int .i64 v1, .int .i64 v2, .int .i64 v3, .int .i64 s1, .int .i64 s2, .int .i64 s3, .int .i64 s4] 166)).drew W2.heap.size 0 ((v1, v2, v3), (s1, s2, s3, s4))) := yz (eo W2 ((v1, v2, v3), (s1, s2, s3, s4)) 166)
   have E3 := yz ((yy E2).kept (World.block_lt_of_cell? W2 _ e0) Y3)
   have HB3 := yz (aj (yy HB2) Y3)
   generalize hW3 : (W2.alloc (.cells #[.int .i64 v1, .int .i64 v2, .int .i64 v3, .int .i64 s1, .int .i64 s2, .int .i64 s3, .int .i64 s4] 166)).drew = W3 at *
   clear hW3 Z3 Y3 y1 y2 z0 z1 z2 e0 e1 e2 e3 y1' z0' z1' z2' e0' e1' e2' e3' E2 HB2
   have J3 := yz (yy HJA _ _ _ (yy HJr) (yy HNr).isMap (bH (yy HB3)))
   have N3 := yz ((yy HNr).below (yy HB3))
   have K3 := yz ((yy HKr).trans (KpM.of_below (b := b) (p := p) (q := q) (yy HB3)))
   have A3 := yz ((yy Ar).kept (yy HB3))
   have C3 := yz ((yy Cr).kept (yy HB3))
   have hw3 : w.heap.size + 1 ≤ W3.heap.size := Nat.le_trans hwr (yy HB3).size
   generalize W2.heap.size = nb at *
   obtain ⟨n0, n1, n2, n3, n4, n5, n6⟩ := yy P3
   simp only [Nat.zero_add] at n0 n1 n2 n3 n4 n5 n6
   have cF := yz (fun (j : Nat) => (callsIn_wide (n := j)).2 (gJ SA SA.length ((v1, v2, v3), (s1, s2, s3, s4)) av cv W3 (by omega) hcv (by omega) (yy A3)))
   have HFV : Hid (dw SA ((v1, v2, v3), (s1, s2, s3, s4)) SA.length = bV L S ids s1) := yz (by rw [yy HFE s1, yy HV, yy HAT])
   rw [yy HFV] at cF
   unfold sgV at cF
   dsimp only at cF
   gi_wp2
   refine ⟨trivial, fun h => (by cases h), ?_⟩
   refine (yy cF _).mono ?_
   rintro e W4 ⟨rfl, hx⟩
   have J4 := yz (yy HJA _ _ _ (yy J3) (yy N3).isMap (bH hx))
   have N4 := yz ((yy N3).below hx)
   have K4 := yz ((yy K3).trans (KpM.of_below (b := b) (p := p) (q := q) hx))
   have C4 := yz ((yy C3).kept hx)
   have E4 := yz ((yy E3).kept (World.block_lt_of_cell? W3 _ (yy E3).1) hx)
   have hw4 : w.heap.size + 1 ≤ W4.heap.size := Nat.le_trans hw3 hx.size
   clear hx n0 n1 n2 n3 n4 n5 n6 J3 N3 K3 C3 E3 A3 cF P3 HJr HNr HKr Cr Ar Sr Dr HB3
   cases hfit : bV L S ids s1
   ·have HR : Hid (fk (bV L S) (L.map (·.1)) r ids (k + 1) = fk (bV L S) (L.map (·.1)) r ids k) := yz (by rw [mb _ _ _ _ (by rw [List.length_map]; exact hkn), yy HMA, hfit]; simp)
    have J5 : Hid (J (pre ++ fk (bV L S) (L.map (·.1)) r ids (k + 1)) W4) := yz (by rw [yy HR]; exact yy J4)
    have N5 : Hid (bm W4 b (N + (k + 1) * 13 ^ r) L ids) := yz (by obtain ⟨D, h1, h2⟩ := yy N4; exact ⟨D, h1.mono (Nat.add_le_add_left (Nat.mul_le_mul_right _ (Nat.le_succ k)) _), h2⟩)
    gi_wp2
    go_roundw
    case rel => first | exact ⟨k + 1, by omega, by go_num, J5, N5, K4⟩ | trace_state
    case measure => simp [intOf]; omega
   ·have HR : Hid (fk (bV L S) (L.map (·.1)) r ids (k + 1) = fk (bV L S) (L.map (·.1)) r ids k ++ dR (bV L S) (L.map (·.1)) r (ids ++ [s1])) := yz (by rw [mb _ _ _ _ (by rw [List.length_map]; exact hkn), yy HMA, hfit]; rfl)
    obtain ⟨c0, c1, c2⟩ := yy C4
    obtain ⟨e0, e1, e2, e3⟩ := yy E4
    simp only [Nat.zero_add] at e0 e1 e2 e3
    obtain ⟨D, hown, hM⟩ := yy N4
    have hNb : N + k * 13 ^ r < maxLen := by
     have h1 : k * 13 ^ r ≤ 12 * 13 ^ r := Nat.mul_le_mul_right _ (by omega)
     have h2 : 100000000 ≤ maxLen := by decide +kernel
     rw [Nat.pow_succ] at hN13
     have h3 : 0 < 13 ^ r := Nat.pow_pos (by decide)
     generalize 13 ^ r = c at *
     generalize k * c = kc at *
     omega
    gi_wp2_with (gi_at_mapUpdate; refine wpListIn_mapUpdate_own _ rfl _ _ _ 161 rfl 3 80 (Maps.int_keyed Tryz.underlying3) Tryz.underlying161 mx b (N + k * 13 ^ r) D rfl hown hNb _ _ (.int .i64 (ids.length : Int)) rfl rfl (uA ids.length (by omega)) (kJ (s1, s2, s3, s4)) [] (my (s1, s2, s3, s4)) ?_; intro W5 hown5 hg5; have HU5 := yz hown5; have HG5 := yz hg5; clear hown5 hg5; have C5 := yz ((yy C4).keptM (KpM.of_grown (b := b) (p := p) (q := q) (yy HG5)) (by omega) (by omega) (by omega)); obtain ⟨x0, x1, x2⟩ := yy C5)
    have J5 := yz (yy HJA _ _ _ (yy J4) (yy N4).isMap (yy HG5))
    have K5 := yz ((yy K4).trans (KpM.of_grown (b := b) (p := p) (q := q) (yy HG5)))
    have N5 : Hid (bm W5 b (N + k * 13 ^ r + 1) L (ids ++ [s1])) := yz ⟨_, yy HU5, by
     have h1 := hM.put (a := s1) hown.isMap (yy HS1)
     rw [yy HAT] at h1
     exact h1⟩
    have S5 := yz (uf (yy S1) (yy K5) hA)
    have D5 := yz (uU (yy D1) (yy K5) hB)
    have hw5 : w.heap.size + 1 ≤ W5.heap.size := Nat.le_trans hw4 (yy HG5).size
    have HLN : Hid (((ids ++ [s1]).length : Int) = (ids.length : Int) + 1) := yz (by simp)
    have cI := yz (fun (j : Nat) => yy HIH (ids ++ [s1]) (pre ++ fk (bV L S) (L.map (·.1)) r ids k) (N + k * 13 ^ r + 1) j W5 (by rw [List.length_append, List.length_singleton]; omega) (by
     have h1 : k * 13 ^ r ≤ 11 * 13 ^ r := Nat.mul_le_mul_right _ (by omega)
     rw [Nat.pow_succ] at hN13
     have h3 : 0 < 13 ^ r := Nat.pow_pos (by decide)
     generalize 13 ^ r = c at *
     generalize k * c = kc at *
     omega) (yy N5) (yy S5) (yy D5) (by omega) (by omega) (yy J5))
    rw [yy HLN] at cI
    clear c0 c1 c2 e0 e1 e2 e3 J4 N4 K4 C4 E4 HU5 hown hM HG5 J5 N5 S5 D5
    refine ⟨trivial, fun h => (by cases h), ?_⟩
    refine (yy cI _).mono ?_
    rintro e W6 ⟨rfl, hJ6, hN6, hK6⟩
    have J6 := yz hJ6
    have K6 := yz ((yy K5).trans hK6)
    have C6 := yz ((yy C5).keptM hK6 (by omega) (by omega) (by omega))
    have N6 := yz hN6
    have hw6 : w.heap.size + 1 ≤ W6.heap.size := Nat.le_trans hw5 hK6.size
    clear x0 x1 x2 hJ6 hN6 hK6 K5 C5 cI
    obtain ⟨x0, x1, x2⟩ := yy C6
    obtain ⟨D6, hown6, hM6⟩ := yy N6
    gi_wp2_with (gi_at_delete; refine wpListIn_delete_own _ rfl _ _ 161 3 rfl 80 (Maps.int_keyed Tryz.underlying3) Tryz.underlying161 mx b _ D6 rfl hown6 _ (.int .i64 (ids.length : Int)) rfl (uA ids.length (by omega)) ?_; intro W7 hown7 ht7; have HU7 := yz hown7; have HG7 := yz ht7.grown; clear hown7 ht7)
    have J7 : Hid (J (pre ++ fk (bV L S) (L.map (·.1)) r ids (k + 1)) W7) := yz (by rw [yy HR, ← List.append_assoc]; exact yy HJA _ _ _ (yy J6) (yy N6).isMap (yy HG7))
    have K7 := yz ((yy K6).trans (KpM.of_grown (b := b) (p := p) (q := q) (yy HG7)))
    have N7 : Hid (bm W7 b (N + (k + 1) * 13 ^ r) L ids) := yz ⟨_, (yy HU7).mono (by
     have h3 : 0 < 13 ^ r := Nat.pow_pos (by decide)
     rw [Nat.succ_mul]
     generalize 13 ^ r = c at *
     generalize k * c = kc at *
     omega), hM6.del⟩
    clear x0 x1 x2 J6 K6 C6 N6 hown6 hM6 HU7 HG7
    gi_wp2
    go_roundw
    case rel => first | exact ⟨k + 1, by omega, by go_num, J7, N7, K7⟩ | exact ⟨k + 1, by omega, by go_num, J7, N7⟩ | trace_state
    case measure => simp [intOf]; omega
  ·obtain rfl : k = L.length := by omega
   have HLN : Hid (((ids ++ [(0 : Int)]).length : Int) = (ids.length : Int) + 1) := yz (by simp)
   have N5 : Hid (bm wr b (N + L.length * 13 ^ r) L (ids ++ [0])) := yz (by obtain ⟨D, h1, h2⟩ := yy HNr; exact ⟨D, h1, h2.snoc0⟩)
   have cI := yz (fun (j : Nat) => yy HIH (ids ++ [0]) (pre ++ fk (bV L S) (L.map (·.1)) r ids L.length) (N + L.length * 13 ^ r) j wr (by rw [List.length_append, List.length_singleton]; omega) (by
    have h1 : L.length * 13 ^ r ≤ 12 * 13 ^ r := Nat.mul_le_mul_right _ hn12
    rw [Nat.pow_succ] at hN13
    generalize 13 ^ r = c at *
    generalize L.length * c = kc at *
    omega) (yy N5) (yy Sr) (yy Dr) (by omega) (by omega) (yy HJr))
   rw [yy HLN] at cI
   gi_wp2
   refine ⟨trivial, fun h => (by cases h), ?_⟩
   refine (yy cI _).mono ?_
   rintro e W6 ⟨rfl, hJ6, hN6, hK6⟩
   have J6 := yz hJ6
   have N6 := yz hN6
   have K6 := yz (((yy HK0).trans (yy HKr)).trans hK6)
   clear hJ6 hN6 hK6 cI N5 c0 c1 c2
   gi_wp2
   go_ret
   refine ⟨rfl, ?_, ?_, yy K6⟩
   ·rw [rU, ← List.append_assoc, List.length_map]
    exact yy J6
   ·obtain ⟨D, h1, h2⟩ := yy N6
    refine ⟨D, h1.mono ?_, fun i hi => ?_⟩
    ·have h3 : L.length * 13 ^ r ≤ 12 * 13 ^ r := Nat.mul_le_mul_right _ hn12
     have h4 : 0 < 13 ^ r := Nat.pow_pos (by decide)
     rw [Nat.pow_succ]
     generalize 13 ^ r = c at *
     generalize L.length * c = kc at *
     omega
    ·have h5 := h2 i hi
     unfold dB at h5 ⊢
     rw [lJ] at h5
     exact h5
theorem pF (L : List St) (S : List D3) (ar br : Option Addr) (cr dr b l p q : Nat) (J : List (List Int) → World → Prop) (hk : aT L = true) (hm : S.length ≤ 6) (hJ : JAb b J) (hY : kW l p q J) (hbp : b ≠ p) (hbq : b ≠ q) (hA : gC ar b p q) (hB : gC br b p q) : ∀ r, ul L S ar br cr dr b l p q J r
 | 0 => sy L S ar br cr dr b l p q J hm hJ hY hbp hbq
 | r + 1 => sw L S ar br cr dr b l p q r J hk hm hJ hbp hbq hA hB (pF L S ar br cr dr b l p q J hk hm hJ hY hbp hbq hA hB r)
attribute [local go_sem] Oper.semAt_some
theorem oK (w : World) (L : List St) : bm (w.alloc (.map #[] 0)) w.heap.size 0 L [] := ⟨.map [], World.ownsMap_made w _ _ _, fun i hi => ⟨by simp [Maps.has], by unfold dB; simp; rfl⟩⟩
theorem uo (L : List St) (S : List D3) (ar br : Option Addr) (cr dr l p q s1 s2 n : Nat) (J : List (List Int) → World → Prop) (W : World) (hk : aT L = true) (hm : S.length ≤ 6) (h1 : W.cell? ⟨s1, 0, none⟩ = some (.slice ar L.length cr)) (h2 : W.cell? ⟨s2, 0, none⟩ = some (.slice br S.length dr)) (hS : aH W ar L L.length) (hD : co W br S S.length) (hA : ∀ y, ar = some y → y.block < W.heap.size ∧ y.block ≠ p ∧ y.block ≠ q) (hB : ∀ y, br = some y → y.block < W.heap.size ∧ y.block ≠ p ∧ y.block ≠ q) (hp : p < W.heap.size) (hq : q < W.heap.size)
  (hJ : ∀ b, W.heap.size ≤ b → JAb b J) (hJn : ∀ pre W1 W2, J pre W1 → Below W1.heap.size W1 W2 → J pre W2) (hY : kW l p q J) (h0 : J [] W) :
  CallsIn Fence.wide n Tryz.prog 122 #[.func (.yield l) #[] #[], .pointer (some ⟨s1, 0, none⟩), .pointer (some ⟨s2, 0, none⟩)] W fun e W' => (∃ v, e = .returned v) ∧ J (dR (bV L S) (L.map (·.1)) S.length []) W' := by
 have hmm := @run_makeMap Tryz.prog
 refine callsIn_of_wp Tryz.func122 rfl trivial ?_ rfl
 simp only [Tryz.ntmps122, List.size_toArray, List.length_cons, List.length_nil, Nat.reduceAdd, Nat.reduceSub, Array.replicate_succ, Array.replicate_zero, List.push_toArray, List.append_toArray, List.nil_append, List.cons_append]
 gi_wp2
 refine ⟨trivial, fun h => (by cases h), ?_⟩
 have B1 := aM W (.map #[] 0) (.cells #[.slice ar L.length cr, .slice br S.length dr, .map (some W.heap.size)] 163)
 have N1 := (oK W L).below (an _ (.cells #[.slice ar L.length cr, .slice br S.length dr, .map (some W.heap.size)] 163))
 have hz : ((W.alloc (.map #[] 0)).alloc (.cells #[.slice ar L.length cr, .slice br S.length dr, .map (some W.heap.size)] 163)).heap.size = W.heap.size + 2 := by simp
 refine (pF L S ar br cr dr W.heap.size l p q J hk hm (hJ _ (Nat.le_refl _)) hY (by omega) (by omega) (fun y e => ⟨by have := (hA y e).1; omega, (hA y e).2⟩) (fun y e => ⟨by have := (hB y e).1; omega, (hB y e).2⟩) S.length [] [] 0 _ _ (by simp) (by have : 13 ^ S.length ≤ 13 ^ 6 := Nat.pow_le_pow_right (by decide) hm; omega) N1 (hS.kept B1) (hD.kept B1) (by omega) (by omega) (hJn _ _ _ h0 B1)).mono ?_
 rintro e W2 ⟨rfl, hJ2, _, _⟩
 have HJ2 := yz hJ2
 clear hJ2 N1 B1
 gi_wp2
 go_end0
 exact ⟨⟨_, rfl⟩, by simpa using yy HJ2⟩
attribute [local go_sem] Oper.semAt_some
structure pi (W : World) (p q : Nat) (G : List Int × Nat) : Prop where
 most : ∃ v, W.heap[p]? = some (.cells #[v] 44 (0, 0)) ∧ ((G.1 = [] ∧ v = .slice none 0 0) ∨ ∃ g, v = .slice (some ⟨g, 0, none⟩) G.1.length G.1.length ∧ p ≤ g ∧ g ≠ p ∧ g ≠ q ∧ dv W 2 g (G.1.length * 1) (lZ G.1))
 alike : W.heap[q]? = some (.cells #[.int .i64 (wrap64 (G.2 : Int))] 2 (0, 0))
 len : G.1.length ≤ 6
structure GrJ (p q l d : Nat) (rec : Loop) (w0 : World) (pre : List (List Int)) (W : World) : Prop where
 box : pi W p q (pre.foldl bT ([], 0))
 rc : W.heap[l]? = some (.loop rec)
 df : W.heap[d]? = some (.deferred (some []))
 bel : Below w0.heap.size w0 W
theorem bI {W W' : World} {k : Nat} {o : Obj} {row : Option Nat} (h : W.heap[k]? = some o) (hg : W.grownBy W' row) (hne : some k ≠ row) : W'.heap[k]? = some o := (hg.block k (Array.getElem?_eq_some_iff.1 h).1 hne).trans h
theorem pi.grown {W W' : World} {p q : Nat} {G : List Int × Nat} {row : Option Nat} (h : pi W p q G) (hg : W.grownBy W' row) (hne : ∀ k cs t f, W.heap[k]? = some (.cells cs t f) → some k ≠ row) : pi W' p q G := by
 obtain ⟨⟨v, h1, h2⟩, h3, h4⟩ := h
 refine ⟨⟨v, bI h1 hg (hne _ _ _ _ h1), ?_⟩, bI h3 hg (hne _ _ _ _ h3), h4⟩
 rcases h2 with h2 | ⟨g, e, n0, n1, n2, cur, hc, hr⟩
 ·exact .inl h2
 ·exact .inr ⟨g, e, n0, n1, n2, cur, bI hc hg (hne _ _ _ _ hc), hr⟩
theorem GrJ.abides {p q l d : Nat} {rec : Loop} {w0 : World} {b : Nat} (hb : w0.heap.size ≤ b) : JAb b (GrJ p q l d rec w0) := fun pre W W' h ⟨es, c, hm⟩ hg =>
 ⟨h.box.grown hg (fun k cs t f hk e => by have := Option.some.inj e; subst this; rw [hm] at hk; cases hk), bI h.rc hg (fun e => by have e2 := Option.some.inj e; have h2 := h.rc; rw [e2, hm] at h2; cases h2), bI h.df hg (fun e => by have e2 := Option.some.inj e; have h2 := h.df; rw [e2, hm] at h2; cases h2), h.bel.trans ⟨hg.os, hg.tape, hg.output, hg.size, fun k hk => hg.block k (Nat.lt_of_lt_of_le hk h.bel.size) (fun e => by have := Option.some.inj e; omega)⟩⟩
theorem GrJ.below {p q l d : Nat} {rec : Loop} {w0 : World} (pre : List (List Int)) (W W' : World) (h : GrJ p q l d rec w0 pre W) (hB : Below W.heap.size W W') : GrJ p q l d rec w0 pre W' := by
 have hg : W.grownBy W' none := ⟨hB.os, hB.tape, hB.output, hB.size, fun k hk _ => hB.block k hk⟩
 exact ⟨h.box.grown hg (fun k cs t f hk e => by cases e), bI h.rc hg (by simp), bI h.df hg (by simp), aj h.bel hB⟩
theorem qR {P : Program} {n : Nat} {g : Operand} {ps : Array Tmp} {assign body : Code} {Q : Exit → Act → World → Prop} {a : Act} {w : World} {gf : Nat} {lb : Array Value} (hg : a.eval g = .func (.func gf) #[] lb) (eg : ∀ args w, (callFunc gf args).run P w = .ok (.enter gf args) w)
  (hc : ∀ (rec : Loop), rec.state = .ready → rec.pending = none → rec.tmps = a.tmps → rec.params = ps → rec.assign = assign → rec.body = body → CallsIn Fence.wide (n - 1) P gf (#[.func (.yield (w.heap.size + 1)) #[] #[]] ++ lb) ((w.alloc (.deferred (some []))).alloc (.loop rec)) fun e W' => (∃ v, e = .returned v) ∧ W'.heap[w.heap.size + 1]? = some (.loop rec) ∧ Q .normal { a with defers := { target := .collected w.heap.size, args := #[] } :: a.defers } (W'.putObj (w.heap.size + 1) (.loop { rec with state := .exhausted }))) :
  (Code.rangeFunc g ps assign body).wpIn Fence.wide n P Q a w := by
 refine wpIn_rangeFunc fun fn _ => ?_
 refine ⟨w.heap.size + 1, _, _, { target := .fn (.func gf) lb, args := #[.func (.yield (w.heap.size + 1)) #[] #[]] }, ?wa, gf, #[.func (.yield (w.heap.size + 1)) #[] #[]] ++ lb, ?wb, run_enterLoop_outer _ _ _ _ _, ?res, fun _ _ => trivial, ?inv, fun h => (by cases h), ?call⟩
 case res =>
  simp only [resolve, hg]
  simp [go_sem]
  rfl
 case inv =>
  simp [invoke, go_sem, eg]
  rfl
 case call =>
  refine (hc _ rfl rfl rfl rfl rfl rfl).mono ?_
  rintro e W' ⟨⟨v, rfl⟩, hl, hq⟩
  exact ⟨none, _, run_endLoop hl (by simp), hq⟩
attribute [local go_sem] Oper.semAt_some
theorem uk (a : Int) : wrap64 (wrap64 a + 1) = wrap64 (a + 1) := by unfold wrap64; omega
theorem te (a : Nat) : wrap64 (wrap64 (a : Int) + 1) = wrap64 ((a + 1 : Nat) : Int) := by rw [uk]; rfl
theorem gF {W : World} {p : Nat} {v : Value} {t : TypeId} (h : W.heap[p]? = some (.cells #[v] t (0, 0))) : W.cell? ⟨p, 0, none⟩ = some v ∧ W.frozen? ⟨p, 0, none⟩ = false := by
 constructor <;> simp [World.cell?, World.frozen?, h]
theorem rF {p q l : Nat} {W : World} {o o' : Obj} (h : W.heap[l]? = some o) (h1 : o.isCells = false) (h2 : o.isWalk = false) : KpX p q W (W.putObj l o') :=
 ⟨by simp, rfl, rfl, rfl, fun k ob hk ho _ _ => by
  have hne : k ≠ l := fun e => by subst e; rw [h] at hk; cases hk; rcases ho with ho | ho <;> simp_all
  exact (World.putObj_heap_other hne).trans hk⟩
theorem oE {p q x : Nat} (W : World) (v : Value) (hx : x = p ∨ x = q) : KpX p q W (W.setCell ⟨x, 0, none⟩ v) :=
 ⟨by simp, rfl, rfl, rfl, fun k o hk _ h1 h2 => by rw [Below.heap_setCell W ⟨x, 0, none⟩ v k (by show k ≠ x; rcases hx with rfl | rfl <;> assumption)]; exact hk⟩
theorem oa {W : World} {x : Nat} {u : Value} {t : TypeId} (h : W.heap[x]? = some (.cells #[u] t (0, 0))) (v : Value) : (W.setCell ⟨x, 0, none⟩ v).heap[x]? = some (.cells #[v] t (0, 0)) := by
 have := heap_setCell_same W x 0 #[u] t v h
 simpa using this
theorem eI {W : World} {x k : Nat} {o : Obj} (h : W.heap[k]? = some o) (hne : k ≠ x) (v : Value) : (W.setCell ⟨x, 0, none⟩ v).heap[k]? = some o := by rw [Below.heap_setCell W ⟨x, 0, none⟩ v k hne]; exact h
theorem oS {W : World} {x g m : Nat} {t : TypeId} {f : Nat → Value} (h : dv W t g m f) (hne : g ≠ x) (v : Value) : dv (W.setCell ⟨x, 0, none⟩ v) t g m f := by
 obtain ⟨cur, hc, hr⟩ := h
 exact ⟨cur, eI hc hne v, hr⟩
theorem kj {p q l d : Nat} {rec rb : Loop} {w W V V' : World} {pre : List (List Int)} {xi : List Int} (hJ : GrJ p q l d rec w pre W) (hV : W.putObj l (.loop rb) = V) (hrb : ({ rb with state := .ready, pending := none } : Loop) = rec) (hlw : w.heap.size ≤ l) (hld : l ≠ d)
  (hb : pi V' p q (bT (pre.foldl bT ([], 0)) xi)) (hl : V'.heap[l]? = some (.loop rb)) (hd : V'.heap[d]? = some (.deferred (some []))) (hB : Below w.heap.size V V') (hk : KpX p q V V') :
  ∃ v w', (Instr.endRound l none).run Tryz.prog V' = .ok v w' ∧ (Ending.returned v = .returned (.bool true) ∧ GrJ p q l d rec w (pre ++ [xi]) w' ∧ KpX p q W w') := by
 have he := run_endRound (P := Tryz.prog) none hl
 have hrb' : ({ rb with state := if (none : Option Code).isNone then .ready else .done, pending := none } : Loop) = rec := hrb
 rw [hrb'] at he
 have hg := grownBy_putObj' V' l (.loop rec)
 have hnc : ∀ k cs t f, V'.heap[k]? = some (.cells cs t f) → some k ≠ some l := fun k cs t f hk e => by have := Option.some.inj e; rw [this, hl] at hk; cases hk
 refine ⟨_, _, he, rfl, ⟨?_, World.putObj_heap_same (Array.getElem?_eq_some_iff.1 hl).1, bI hd hg (fun e => hld (Option.some.inj e).symm), ?_⟩, ?_⟩
 ·rw [List.foldl_append]
  exact hb.grown hg hnc
 ·have b1 : Below w.heap.size W V := hV ▸ ((Below.refl w.heap.size W).grown (grownBy_putObj' W l (.loop rb)) hJ.bel.size (fun k e => by cases e; exact hlw))
  exact ((hJ.bel.trans b1).trans hB).trans ((Below.refl w.heap.size V').grown hg (Nat.le_trans hJ.bel.size (Nat.le_trans b1.size hB.size)) (fun k e => by cases e; exact hlw))
 ·have k1 : KpX p q W V := hV ▸ rF hJ.rc rfl rfl
  exact (k1.trans hk).trans (rF hl rfl rfl)
theorem ow (L : List St) (S : List D3) (ar br : Option Addr) (cr dr s1 s2 : Nat) (w : World) (hk : aT L = true) (hm : S.length ≤ 6) (h1 : w.cell? ⟨s1, 0, none⟩ = some (.slice ar L.length cr)) (h2 : w.cell? ⟨s2, 0, none⟩ = some (.slice br S.length dr)) (hS : aH w ar L L.length) (hD : co w br S S.length) (hA : ∀ y, ar = some y → y.block < w.heap.size) (hB : ∀ y, br = some y → y.block < w.heap.size) (n : Nat) :
  CallsIn Fence.wide n Tryz.prog 112 #[.func (.func 122) #[] #[.pointer (some ⟨s1, 0, none⟩), .pointer (some ⟨s2, 0, none⟩)]] w fun e w' => (∃ v, e = .returned (.tuple #[v, .int .i64 (wrap64 ((bX L S).2 : Int))]) ∧ (((bX L S).1 = [] ∧ v = .slice none 0 0) ∨ ∃ g, v = .slice (some ⟨g, 0, none⟩) (bX L S).1.length (bX L S).1.length ∧ w.heap.size ≤ g ∧ dv w' 2 g ((bX L S).1.length * 1) (lZ (bX L S).1))) ∧ Below w.heap.size w w' ∧ (bX L S).1.length ≤ 6 := by
 refine callsIn_of_wp_marks Tryz.func112 rfl trivial ?_ rfl
 simp only [Tryz.ntmps112, List.size_toArray, List.length_cons, List.length_nil, Nat.reduceAdd, Nat.reduceSub, Array.replicate_succ, Array.replicate_zero, List.push_toArray, List.append_toArray, List.nil_append, List.cons_append]
 gi_wp2
 have B0 := aM w (.cells #[.slice none 0 0] 44) (.cells #[.int .i64 0] 2)
 have hz0 : ((w.alloc (.cells #[.slice none 0 0] 44)).alloc (.cells #[.int .i64 0] 2)).heap.size = w.heap.size + 2 := by simp
 have hp0 : ((w.alloc (.cells #[.slice none 0 0] 44)).alloc (.cells #[.int .i64 0] 2)).heap[w.heap.size]? = some (.cells #[.slice none 0 0] 44 (0, 0)) := (Below.heap_alloc _ _ _ (by simp)).trans (World.alloc_heap_new w _)
 have hq0 : ((w.alloc (.cells #[.slice none 0 0] 44)).alloc (.cells #[.int .i64 0] 2)).heap[w.heap.size + 1]? = some (.cells #[.int .i64 0] 2 (0, 0)) := by
  have := World.alloc_heap_new (w.alloc (.cells #[.slice none 0 0] 44)) (.cells #[.int .i64 0] 2)
  rw [World.size_alloc] at this
  exact this
 generalize hW0 : (w.alloc (.cells #[.slice none 0 0] 44)).alloc (.cells #[.int .i64 0] 2) = W0 at *
 clear hW0
 refine qR rfl (enters_of Tryz.func122 (by kernel_rfl) rfl) ?_
 intro rec hst hpe htm hpa has hbo
 have B1 : Below W0.heap.size W0 ((W0.alloc (.deferred (some []))).alloc (.loop rec)) := aM W0 _ _
 have hz1 : ((W0.alloc (.deferred (some []))).alloc (.loop rec)).heap.size = w.heap.size + 4 := by simp; omega
 have hl1 : ((W0.alloc (.deferred (some []))).alloc (.loop rec)).heap[W0.heap.size + 1]? = some (.loop rec) := by
  have := World.alloc_heap_new (W0.alloc (.deferred (some []))) (.loop rec)
  rw [World.size_alloc] at this
  exact this
 have hd1 : ((W0.alloc (.deferred (some []))).alloc (.loop rec)).heap[W0.heap.size]? = some (.deferred (some [])) := (Below.heap_alloc _ _ _ (by simp)).trans (World.alloc_heap_new W0 _)
 generalize hW1 : (W0.alloc (.deferred (some []))).alloc (.loop rec) = W1 at *
 clear hW1
 rw [hz0] at hl1 hd1 ⊢
 have Bw := aj B0 B1
 have Jst : GrJ w.heap.size (w.heap.size + 1) (w.heap.size + 2 + 1) (w.heap.size + 2) rec w [] W1 := ⟨⟨⟨_, by rw [B1.block _ (by omega)]; exact hp0, .inl ⟨rfl, rfl⟩⟩, by rw [B1.block _ (by omega), hq0]; exact congrArg (fun z => some (Obj.cells #[Value.int .i64 z] 2 (0, 0))) (show (0 : Int) = wrap64 0 from (ap (by omega) (by omega)).symm), by simp⟩, hl1, hd1, Bw⟩
 refine (uo L S ar br cr dr (w.heap.size + 2 + 1) w.heap.size (w.heap.size + 1) s1 s2 (n - 1) (GrJ w.heap.size (w.heap.size + 1) (w.heap.size + 2 + 1) (w.heap.size + 2) rec w) W1 hk hm (ba h1 Bw) (ba h2 Bw) (hS.kept Bw) (hD.kept Bw) (fun y e => by have := hA y e; omega) (fun y e => by have := hB y e; omega) (by omega) (by omega) (fun b hb => GrJ.abides (by omega)) GrJ.below ?round Jst).mono ?behind
 case round =>
  clear Jst B1 Bw hl1 hd1 hp0 hq0 B0
  intro m pre x W hJ hW0 hx hlen
  obtain ⟨xi, xg⟩ := x
  unfold vw at hx
  unfold vy
  dsimp only at hx hlen hW0 ⊢
  have hfar : w.heap.size ≤ xg := by
   obtain ⟨W0', hJ0, h0⟩ := hW0
   have := (Array.getElem?_eq_some_iff.1 hJ0.rc).1
   omega
  clear hW0
  refine ⟨rec.fn, _, rec.assign, rec.body, run_yield hJ.rc (by rw [hpa]; rfl), roundIn_of_wpIn trivial ?_⟩
  rw [has, hbo, htm, hpa]
  have hW2 := hJ.rc
  have hbeg := run_beginRound (P := Tryz.prog) hJ.rc hst
  have hG2 := grownBy_putObj' W (w.heap.size + 2 + 1) (.loop { rec with state := .busy })
  have hnc : ∀ k cs t f, W.heap[k]? = some (.cells cs t f) → some k ≠ some (w.heap.size + 2 + 1) := fun k cs t f hk e => by have := Option.some.inj e; rw [this, hJ.rc] at hk; cases hk
  have hBx := hJ.box.grown hG2 hnc
  have hX2 : dv (W.putObj (w.heap.size + 2 + 1) (.loop { rec with state := .busy })) 2 xg (xi.length * 1) (lZ xi) := by obtain ⟨cur, hc, hr⟩ := hx; exact ⟨cur, bI hc hG2 (hnc _ _ _ _ hc), hr⟩
  have hl2 : (W.putObj (w.heap.size + 2 + 1) (.loop { rec with state := .busy })).heap[w.heap.size + 2 + 1]? = some (.loop { rec with state := .busy }) := World.putObj_heap_same (Array.getElem?_eq_some_iff.1 hJ.rc).1
  have HBx := yz hBx
  have HX := yz hX2
  have HL2 := yz hl2
  have HJ := yz hJ
  have HG2 := yz hG2
  have HRB : Hid (({ ({ rec with state := .busy } : Loop) with state := .ready, pending := none } : Loop) = rec) := yz (by cases rec; simp_all)
  clear hBx hX2 hl2 hJ hx hnc hG2 hW2 has hbo htm hpa hpe hst
  generalize hrb : ({ rec with state := .busy } : Loop) = rb at *
  clear hrb
  have cN := yz (fun (j : Nat) => CallsIn.inRound (w.heap.size + 2 + 1) ((callsIn_wide (n := j)).2 (ek xi (some ⟨xg, 0, none⟩) xi.length _ (by omega) (jw (yy HX)))))
  gi_wp2
  refine ⟨trivial, fun h => (by cases h), ?_⟩
  refine (yy cN _).mono ?_
  rintro e V1 ⟨rfl, hV1⟩
  generalize hV : W.putObj (w.heap.size + 2 + 1) (.loop rb) = V at *
  subst hV1
  obtain ⟨G, hG⟩ : ∃ G, pre.foldl bT ([], 0) = G := ⟨_, rfl⟩
  rw [hG] at HBx
  have HG := yz hG
  clear hG hbeg cN
  obtain ⟨Gm, Ga⟩ := G
  obtain ⟨⟨vm, hvm, hmost⟩, halike, hlenG⟩ := yy HBx
  dsimp only at hmost halike hlenG
  have HD2 : Hid (V1.heap[w.heap.size + 2]? = some (.deferred (some []))) := yz (by rw [← hV]; exact bI (yy HJ).df (grownBy_putObj' W _ _) (fun e => by have := Option.some.inj e; omega))
  have hV1s : w.heap.size + 4 ≤ V1.heap.size := by have := (Array.getElem?_eq_some_iff.1 (yy HL2)).1; omega
  obtain ⟨am, cm, hvf, hnm⟩ : ∃ am cm, vm = .slice am Gm.length cm ∧ eP V1 am Gm Gm.length := by
   rcases hmost with ⟨e1, e2⟩ | ⟨g, e, _, _, _, hr⟩
   ·exact ⟨none, 0, by rw [e1, e2]; rfl, .inl (by rw [e1]; rfl)⟩
   ·exact ⟨_, _, e, jw hr⟩
  subst hvf
  have HM := yz hmost
  have HVM := yz hvm
  have HAL := yz halike
  obtain ⟨m0, m1⟩ := gF hvm
  obtain ⟨a0, a1⟩ := gF halike
  have cM := yz (fun (j : Nat) => CallsIn.inRound (w.heap.size + 2 + 1) ((callsIn_wide (n := j)).2 (ek Gm am cm V1 (by omega) hnm)))
  have HSame : Hid (bT (Gm, Ga) xi = (Gm, Ga) → ∃ v w', (Instr.endRound (w.heap.size + 2 + 1) none).run Tryz.prog V1 = .ok v w' ∧ (Ending.returned v = .returned (.bool true) ∧ GrJ w.heap.size (w.heap.size + 1) (w.heap.size + 2 + 1) (w.heap.size + 2) rec w (pre ++ [xi]) w' ∧ KpX w.heap.size (w.heap.size + 1) W w')) := yz (fun e => kj (yy HJ) hV (yy HRB) (by omega) (by omega) (by rw [yy HG, e]; exact yy HBx) (yy HL2) (yy HD2) (Below.refl _ _) ⟨Nat.le_refl _, rfl, rfl, rfl, fun _ _ h _ _ _ => h⟩)
  clear hmost hvm halike hnm
  by_cases c3 : aJ xi < 3
  ·have c3' : (aJ xi : Int) < 3 := by omega
   gi_wp2
   refine ⟨trivial, ?_⟩
   gi_wp2
   exact yy HSame (by unfold bT; rw [if_pos (.inl c3)])
  have c3' : ¬ (aJ xi : Int) < 3 := by omega
  gi_wp2
  refine ⟨trivial, fun h => (by cases h), ?_⟩
  refine (yy cM _).mono ?_
  rintro e V2 ⟨rfl, hV2⟩
  rw [hV2]
  clear hV2 V2
  by_cases c4 : aJ xi < aJ Gm
  ·have c4' : (aJ xi : Int) < (aJ Gm : Int) := by omega
   gi_wp2
   exact yy HSame (by unfold bT; rw [if_pos (.inr c4)])
  have c4' : ¬ (aJ xi : Int) < (aJ Gm : Int) := by omega
  gi_wp2
  refine ⟨trivial, fun h => (by cases h), ?_⟩
  refine (yy cM _).mono ?_
  rintro e V2 ⟨rfl, hV2⟩
  rw [hV2]
  clear hV2 V2
  have hxl : 3 ≤ xi.length := by have := eU xi; omega
  have hxp : xg ≠ w.heap.size := fun e => by
   obtain ⟨cur, hc, _⟩ := yy HX
   have h5 := yy HVM
   rw [← e, hc] at h5
   simp at h5
  have hxq : xg ≠ w.heap.size + 1 := fun e => by
   obtain ⟨cur, hc, hr⟩ := yy HX
   have h5 := yy HAL
   rw [← e, hc] at h5
   simp at h5
   have h6 := hr 1 (by omega)
   rw [h5] at h6
   simp at h6
  by_cases c5 : aJ Gm < aJ xi
  ·have c5' : (aJ Gm : Int) < (aJ xi : Int) := by omega
   gi_wp2
   have hst : bT (Gm, Ga) xi = (xi, 1) := by unfold bT; dsimp only; rw [if_neg (by rintro (h | h) <;> omega), if_pos c5]
   refine kj (yy HJ) hV (yy HRB) (by omega) (by omega) ?_ (eI (eI (yy HL2) (by omega) _) (by omega) _) (eI (eI (yy HD2) (by omega) _) (by omega) _) (((Below.refl w.heap.size V1).setCell (p := ⟨w.heap.size, 0, none⟩) (Nat.le_refl _) _).setCell (p := ⟨w.heap.size + 1, 0, none⟩) (by show w.heap.size ≤ w.heap.size + 1; omega) _) ((oE V1 _ (.inl rfl)).trans (oE _ _ (.inr rfl)))
   rw [yy HG, hst]
   refine ⟨⟨_, eI (oa (yy HVM) _) (by omega) _, .inr ⟨xg, rfl, hfar, hxp, hxq, oS (oS (yy HX) hxp _) hxq _⟩⟩, ?_, hlen⟩
   have h7 := oa (eI (x := w.heap.size) (yy HAL) (by omega) (Value.slice (some ⟨xg, 0, none⟩) xi.length xi.length)) (Value.int .i64 1)
   rw [show wrap64 (((xi, 1) : List Int × Nat).2 : Int) = 1 from ap (n := 1) (by omega) (by omega)]
   exact h7
  ·have c5' : ¬ (aJ Gm : Int) < (aJ xi : Int) := by omega
   gi_wp2
   have hst : bT (Gm, Ga) xi = (Gm, Ga + 1) := by unfold bT; dsimp only; rw [if_neg (by rintro (h | h) <;> omega), if_neg c5]
   refine kj (yy HJ) hV (yy HRB) (by omega) (by omega) ?_ (eI (yy HL2) (by omega) _) (eI (yy HD2) (by omega) _) ((Below.refl w.heap.size V1).setCell (p := ⟨w.heap.size + 1, 0, none⟩) (by show w.heap.size ≤ w.heap.size + 1; omega) _) (oE V1 _ (.inr rfl))
   rw [yy HG, hst]
   refine ⟨⟨_, eI (yy HVM) (by omega) _, ?_⟩, ?_, hlenG⟩
   ·rcases yy HM with h | ⟨g, e, n0, n1, n2, hr⟩
    ·exact .inl h
    ·exact .inr ⟨g, e, n0, n1, n2, oS hr n2 _⟩
   ·have h7 := oa (yy HAL) (Value.int .i64 (wrap64 (wrap64 (Ga : Int) + 1)))
    rw [h7]
    have e8 : wrap64 (wrap64 (Ga : Int) + 1) = wrap64 (((Gm, Ga + 1) : List Int × Nat).2 : Int) := by
     show wrap64 (wrap64 (Ga : Int) + 1) = wrap64 ((Ga + 1 : Nat) : Int)
     exact te Ga
    rw [e8]
 case behind =>
  rintro e W' ⟨⟨v, rfl⟩, hJ⟩
  refine ⟨⟨_, rfl⟩, hJ.rc, ?_⟩
  have hne : ∀ k cs t f, W'.heap[k]? = some (.cells cs t f) → some k ≠ some (w.heap.size + 2 + 1) := fun k cs t f hk e => by have := Option.some.inj e; rw [this, hJ.rc] at hk; cases hk
  have hBx := fun o => hJ.box.grown (grownBy_putObj' W' (w.heap.size + 2 + 1) o) hne
  have HBx := yz hBx
  have HDf := yz (fun o => bI hJ.df (grownBy_putObj' W' (w.heap.size + 2 + 1) o) (fun e => by have := Option.some.inj e; omega))
  have HBl := yz (fun o => hJ.bel.trans ((Below.refl w.heap.size W').grown (grownBy_putObj' W' (w.heap.size + 2 + 1) o) hJ.bel.size (fun k e => by cases e; omega)))
  obtain ⟨⟨vm, hvm, hmost⟩, halike, hlen6⟩ := hJ.box
  have m0 := fun o => (gF (bI hvm (grownBy_putObj' W' (w.heap.size + 2 + 1) o) (hne _ _ _ _ hvm))).1
  have a0 := fun o => (gF (bI halike (grownBy_putObj' W' (w.heap.size + 2 + 1) o) (hne _ _ _ _ halike))).1
  have HM := yz hmost
  have HNe := yz hne
  clear hBx hvm hmost halike hne hJ B1 Bw hl1 hd1 hp0 hq0 B0 Jst has hbo htm hpa hpe hst
  gi_wp2
  gi_region
  gi_wp2
  refine ⟨by simp, .inl ⟨w.heap.size + 2, _, rfl, run_takeDeferred (yy HDf _), ?_⟩⟩
  have HBy := yz (fun o => (yy HBl o).drew.trans ((Below.refl w.heap.size _).grown (grownBy_putObj' (W'.putObj (w.heap.size + 2 + 1) o).drew (w.heap.size + 2) (.deferred none)) (yy HBl o).size (fun k e => by cases e; omega)))
  refine ⟨_, by simp [results, go_sem]; rfl, ⟨vm, rfl, ?_⟩, yy HBy _, hlen6⟩
  rcases yy HM with h | ⟨g, e, n0, n1, n2, hr⟩
  ·exact .inl h
  ·refine .inr ⟨g, e, n0, ?_⟩
   obtain ⟨cur, hc, hr⟩ := hr
   have k1 := fun o => bI hc (grownBy_putObj' W' (w.heap.size + 2 + 1) o) (yy HNe _ _ _ _ hc)
   have hgd : g ≠ w.heap.size + 2 := fun e => by
    have h2 := yy HDf (.deferred none)
    have h3 := k1 (.deferred none)
    rw [e, h2] at h3
    cases h3
   have k2 : ∀ o, ((W'.putObj (w.heap.size + 2 + 1) o).drew.putObj (w.heap.size + 2) (.deferred none)).heap[g]? = some (.cells cur 2 (0, 0)) := fun o => (World.putObj_heap_other hgd).trans (k1 o)
   exact ⟨cur, k2 _, hr⟩
theorem pT (L : List St) (S : List D3) (ar br : Option Addr) (cr dr : Nat) (w : World) :
  Calls Tryz.prog 113 #[.slice ar L.length cr, .slice br S.length dr] w fun e w' => e = .returned (.func (.func 122) #[] #[.pointer (some ⟨w.heap.size, 0, none⟩), .pointer (some ⟨w.heap.size + 1, 0, none⟩)]) ∧ w'.cell? ⟨w.heap.size, 0, none⟩ = some (.slice ar L.length cr) ∧ w'.cell? ⟨w.heap.size + 1, 0, none⟩ = some (.slice br S.length dr) ∧ Below w.heap.size w w' := by
 go_enter Tryz.func113, Tryz.ntmps113
 go_wp2
 refine bodyPost_ret (v := .func (.func 122) #[] #[.pointer (some ⟨w.heap.size, 0, none⟩), .pointer (some ⟨w.heap.size + 1, 0, none⟩)]) (by simp [results, go_sem]) rfl ⟨rfl, ?_, ?_, aM w _ _⟩
 ·exact ba (by simp) (an _ _)
 ·have := World.alloc_heap_new (w.alloc (.cells #[.slice ar L.length cr] 23)) (.cells #[.slice br S.length dr] 28)
  rw [World.size_alloc] at this
  exact (gF this).1
def vh (w' : World) (B : Nat) (ids : List Int) (cnt code : Int) (e : Ending) : Prop := ∃ v, e = .returned (.agg #[v, .int .i64 cnt, .int .i64 code]) ∧ ((ids = [] ∧ v = .slice none 0 0) ∨ ∃ g, v = .slice (some ⟨g, 0, none⟩) ids.length ids.length ∧ B ≤ g ∧ dv w' 2 g (ids.length * 1) (lZ ids))
theorem fS (T : Array Value) (X : World) (b : Nat) (v : Value) (c k : Int) (hT : T.getD 4 undef = .pointer (some ⟨b, 0, none⟩)) (h : IdO X b v c k) : (results Tryz.f95 T).run Tryz.prog X = .ok (.agg #[v, .int .i64 c, .int .i64 k]) X := by
 obtain ⟨h0, h1, h2⟩ := h
 simp only [Array.getD_eq_getD_getElem?] at hT
 simp [results, Tryz.results95, go_sem, hT, h0, h1, h2]
theorem mj {W : World} {x g m : Nat} {t : TypeId} {f : Nat → Value} (h : dv W t g m f) (hne : g ≠ x) (o : Nat) (v : Value) : dv (W.setCell ⟨x, o, none⟩ v) t g m f := by
 obtain ⟨cur, hc, hr⟩ := h
 exact ⟨cur, by rw [Below.heap_setCell W ⟨x, o, none⟩ v g hne]; exact hc, hr⟩
theorem pz : ∀ (X : List (List Int)) (g : List Int × Nat), (X.foldl bT g).2 ≤ g.2 + X.length
 | [], g => by simp
 | x :: X, g => by
  have h1 := pz X (bT g x)
  have h2 : (bT g x).2 ≤ g.2 + 1 := by
   unfold bT
   split
   ·exact Nat.le_succ _
   ·split
    ·show 1 ≤ g.2 + 1; omega
    ·exact Nat.le_refl _
  rw [List.foldl_cons, List.length_cons]
  omega
theorem sz (L : List St) (S : List D3) (hk : aT L = true) (hm : S.length ≤ 6) : (bX L S).2 ≤ 4826809 := by
 have h1 := pz (dR (bV L S) (L.map (·.1)) S.length []) ([], 0)
 have h2 := jg (bV L S) (L.map (·.1)) (by rw [List.length_map]; exact (cx hk).1) S.length []
 have h3 : 13 ^ S.length ≤ 13 ^ 6 := Nat.pow_le_pow_right (by omega) hm
 have h4 : (13 : Nat) ^ 6 = 4826809 := by decide
 unfold bX
 rw [h4] at h3
 exact Nat.le_trans h1 (by show 0 + _ ≤ _; omega)
theorem fd {w' : World} {B : Nat} {L : List St} {S : List D3} {k : Int} (h : bB L S = [] ∧ eD L S = 0 ∧ dg L S = k) : vh w' B (bB L S) (eD L S) (dg L S) (.returned (.agg #[.slice none 0 0, .int .i64 0, .int .i64 k])) := by
 rw [h.1, h.2.1, h.2.2]
 exact ⟨_, rfl, .inl ⟨rfl, rfl⟩⟩
theorem oz (L : List St) (S : List D3) (ar br : Option Addr) (cr dr : Nat) (p : Addr) (w : World) (hn : L.length ≤ 1048576) (hm : S.length ≤ 1048576) (hcr : L.length ≤ cr) (hc9 : cr ≤ 9223372036854775807) (hdr : S.length ≤ dr) (hd9 : dr ≤ 9223372036854775807) (hS : aH w ar L L.length) (hD : co w br S S.length) (hA : ∀ y, ar = some y → y.block < w.heap.size) (hB : ∀ y, br = some y → y.block < w.heap.size) (hE : aY p w) :
  Calls Tryz.prog 95 #[.slice ar L.length cr, .slice br S.length dr] w fun e w' => vh w' w.heap.size (bB L S) (eD L S) (dg L S) e ∧ Below w.heap.size w w' := by
 have B0 := an w (.cells #[.slice none 0 0, .int .i64 0, .int .i64 0] 100)
 by_cases hbig : 400 < L.length ∨ 400 < S.length
 ·have HO := yz (nz hbig)
  by_cases h4 : 400 < L.length
  ·have h4' : (400 : Int) < (L.length : Int) := by omega
   go_enter Tryz.func95, Tryz.ntmps95
   go_wp2
   exact bodyPost_ret (v := .agg #[.slice none 0 0, .int .i64 0, .int .i64 2]) (by simp [results, Tryz.results95, go_sem]) rfl ⟨fd (yy HO), an _ _⟩
  ·have h4' : ¬ (400 : Int) < (L.length : Int) := by omega
   have h5' : (400 : Int) < (S.length : Int) := by omega
   go_enter Tryz.func95, Tryz.ntmps95
   go_wp2
   exact bodyPost_ret (v := .agg #[.slice none 0 0, .int .i64 0, .int .i64 2]) (by simp [results, Tryz.results95, go_sem]) rfl ⟨fd (yy HO), an _ _⟩
 have h4' : ¬ (400 : Int) < (L.length : Int) := by omega
 have h5' : ¬ (400 : Int) < (S.length : Int) := by omega
 have R0 : IdO (w.alloc (.cells #[.slice none 0 0, .int .i64 0, .int .i64 0] 100)) w.heap.size (.slice none 0 0) 0 0 := by refine ⟨?_, ?_, ?_⟩ <;> simp
 have F0 : fe (w.alloc (.cells #[.slice none 0 0, .int .i64 0, .int .i64 0] 100)) w.heap.size := fun i => by simp
 have hsz : w.heap.size + 1 ≤ (w.alloc (.cells #[.slice none 0 0, .int .i64 0, .int .i64 0] 100)).heap.size := by simp
 have cS := yz (fun (W : World) h h2 => eq L ar cr p W hn hcr hc9 h h2)
 have HE := yz (hE.kept B0)
 have cD := yz (fun (W : World) h => eu S br dr W hm hdr hd9 h)
 have HB := yz B0
 have HR := yz R0
 have HF := yz F0
 have HS := yz (hS.kept B0)
 have HD := yz (hD.kept B0)
 clear B0 R0 F0 hS hD hE
 go_enter Tryz.func95, Tryz.ntmps95
 go_wp2_with fail
 generalize hW : w.alloc (.cells #[.slice none 0 0, .int .i64 0, .int .i64 0] 100) = W at *
 clear hW
 refine (yy cS _ (yy HS) (yy HE)).mono ?_
 rintro e w1 ⟨rfl, hx⟩
 have B1 := yz (aj (yy HB) hx)
 have R1 := yz ((yy HR).kept hx)
 have F1 := yz ((yy HF).kept (by omega) hx)
 have S1 := yz ((yy HS).kept hx)
 have D1 := yz ((yy HD).kept hx)
 have hsz1 : w.heap.size + 1 ≤ w1.heap.size := Nat.le_trans hsz hx.size
 clear hx HB HR HF HS HD hsz cS
 cases hk : aT L
 ·have HO := yz (lL hbig (by unfold jV; rw [hk]; rfl))
  obtain ⟨r0, r1, r2⟩ := yy R1
  have f0 := yy F1 0
  have f1 := yy F1 1
  have f2 := yy F1 2
  go_wp2_with fail
  clear r0 r1 r2 f0 f1 f2
  exact bodyPost_ret (v := .agg #[.slice none 0 0, .int .i64 0, .int .i64 1]) (fS _ _ w.heap.size _ 0 1 rfl (fy (yy R1) _ _ _)) rfl ⟨fd (yy HO), ((((yy B1).setCell (Nat.le_refl _) _).setCell (Nat.le_refl _) _).setCell (Nat.le_refl _) _)⟩
 go_wp2_with fail
 refine (yy cD _ (yy D1)).mono ?_
 rintro e w2 ⟨rfl, hx⟩
 have B2 := yz (aj (yy B1) hx)
 have R2 := yz ((yy R1).kept hx)
 have F2 := yz ((yy F1).kept (by omega) hx)
 have S2 := yz ((yy S1).kept hx)
 have D2 := yz ((yy D1).kept hx)
 have hsz2 : w.heap.size + 1 ≤ w2.heap.size := Nat.le_trans hsz1 hx.size
 clear hx B1 R1 F1 S1 D1 hsz1 cD
 cases hp : aN S
 ·have HO := yz (lL hbig (by unfold jV; rw [hp, Bool.and_false]))
  obtain ⟨r0, r1, r2⟩ := yy R2
  have f0 := yy F2 0
  have f1 := yy F2 1
  have f2 := yy F2 2
  go_wp2_with fail
  clear r0 r1 r2 f0 f1 f2
  exact bodyPost_ret (v := .agg #[.slice none 0 0, .int .i64 0, .int .i64 1]) (fS _ _ w.heap.size _ 0 1 rfl (fy (yy R2) _ _ _)) rfl ⟨fd (yy HO), ((((yy B2).setCell (Nat.le_refl _) _).setCell (Nat.le_refl _) _).setCell (Nat.le_refl _) _)⟩
 have HO := yz (im hbig (by unfold jV; rw [hk, hp]; rfl))
 have hs6 : S.length ≤ 6 := (bq hp).1
 have hgb := sz L S hk hs6
 clear hp
 go_wp2_with fail
 refine (pT L S ar br cr dr w2).mono ?_
 rintro e w3 ⟨rfl, p1, p2, hx⟩
 have B3 := yz (aj (yy B2) hx)
 have R3 := yz ((yy R2).kept hx)
 have F3 := yz ((yy F2).kept (by omega) hx)
 have S3 := yz ((yy S2).kept hx)
 have D3' := yz ((yy D2).kept hx)
 have hsz3 : w.heap.size + 1 ≤ w3.heap.size := Nat.le_trans hsz2 hx.size
 have cG := yz ((callsIn_wide (n := 0)).1 (ow L S ar br cr dr w2.heap.size (w2.heap.size + 1) w3 hk hs6 p1 p2 (yy S3) (yy D3') (fun y e => by have := hA y e; omega) (fun y e => by have := hB y e; omega) 0))
 clear p1 p2 hx B2 R2 F2 S2 D2 hk
 go_wp2_with fail
 refine (yy cG).mono ?_
 rintro e w4 ⟨⟨v, rfl, hv⟩, hx, hl6⟩
 have B4 := yz (aj (yy B3) hx)
 have R4 := yz ((yy R3).kept hx)
 have F4 := yz ((yy F3).kept (by omega) hx)
 have hsz4 : w.heap.size + 1 ≤ w4.heap.size := Nat.le_trans hsz3 hx.size
 have HV := yz hv
 clear hx hv B3 R3 F3 S3 D3' cG
 rw [ap (n := ((bX L S).2 : Int)) (by omega) (by omega)]
 have HG := yz (iT L S)
 obtain ⟨Gi, hGi⟩ : ∃ G, (bX L S) = G := ⟨_, rfl⟩
 rw [hGi] at HV HG hgb hl6 ⊢
 clear hGi
 obtain ⟨gi, ga⟩ := Gi
 dsimp only at HV HG hgb hl6 ⊢
 obtain ⟨r0, r1, r2⟩ := yy R4
 have f0 := yy F4 0
 have f1 := yy F4 1
 have f2 := yy F4 2
 by_cases c0 : ga = 0
 ·have c0' : (ga : Int) = 0 := by omega
  go_wp2_with fail
  clear r0 r1 r2 f0 f1 f2
  have h8 : bB L S = [] ∧ eD L S = 0 ∧ dg L S = 6 := ⟨by rw [(yy HO).1, (yy HG).1, if_neg (by omega)], by rw [(yy HO).2.1, (yy HG).2.1, if_neg (by omega)], by rw [(yy HO).2.2, (yy HG).2.2, if_pos c0]⟩
  exact bodyPost_ret (v := .agg #[.slice none 0 0, .int .i64 0, .int .i64 6]) (fS _ _ w.heap.size _ 0 6 rfl (fy (yy R4) _ _ _)) rfl ⟨fd h8, ((((yy B4).setCell (Nat.le_refl _) _).setCell (Nat.le_refl _) _).setCell (Nat.le_refl _) _)⟩
 have c0' : ¬ (ga : Int) = 0 := by omega
 by_cases c1 : 1 < ga
 ·have c1' : (1 : Int) < (ga : Int) := by omega
  go_wp2_with fail
  clear r0 r1 r2 f0 f1 f2
  have h8 : bB L S = [] ∧ eD L S = 0 ∧ dg L S = 11 := ⟨by rw [(yy HO).1, (yy HG).1, if_neg (by omega)], by rw [(yy HO).2.1, (yy HG).2.1, if_neg (by omega)], by rw [(yy HO).2.2, (yy HG).2.2, if_neg c0, if_pos c1]⟩
  exact bodyPost_ret (v := .agg #[.slice none 0 0, .int .i64 0, .int .i64 11]) (fS _ _ w.heap.size _ 0 11 rfl (fy (yy R4) _ _ _)) rfl ⟨fd h8, ((((yy B4).setCell (Nat.le_refl _) _).setCell (Nat.le_refl _) _).setCell (Nat.le_refl _) _)⟩
 have c1' : ¬ (1 : Int) < (ga : Int) := by omega
 have hga : ga = 1 := by omega
 have h8 : bB L S = gi ∧ eD L S = (aJ gi : Int) ∧ dg L S = 0 := ⟨by rw [(yy HO).1, (yy HG).1, if_pos hga], by rw [(yy HO).2.1, (yy HG).2.1, if_pos hga], by rw [(yy HO).2.2, (yy HG).2.2, if_neg c0, if_neg c1]⟩
 obtain ⟨va, vc, rfl, hnm⟩ : ∃ a c, v = .slice a gi.length c ∧ eP w4 a gi gi.length := by
  rcases yy HV with ⟨e1, e2⟩ | ⟨g, e, _, hr⟩
  ·exact ⟨none, 0, by rw [e1, e2]; rfl, .inl (by rw [e1]; rfl)⟩
  ·exact ⟨_, _, e, jw hr⟩
 have cN := yz (ek gi va vc w4 (by omega) hnm)
 clear hnm
 go_wp2_with fail
 refine (yy cN).mono ?_
 rintro e w5 ⟨rfl, hw5⟩
 subst hw5
 go_wp2_with fail
 clear r0 r1 r2 f0 f1 f2
 rw [h8.1, h8.2.1, h8.2.2]
 refine bodyPost_ret (v := .agg #[.slice va gi.length vc, .int .i64 (aJ gi : Int), .int .i64 0]) (fS _ _ w.heap.size _ (aJ gi : Int) 0 rfl (fy (yy R4) _ _ _)) rfl ⟨⟨_, rfl, ?_⟩, ((((yy B4).setCell (Nat.le_refl _) _).setCell (Nat.le_refl _) _).setCell (Nat.le_refl _) _)⟩
 rcases yy HV with h | ⟨g, e, hg, hr⟩
 ·exact .inl h
 ·have hne : g ≠ w.heap.size := by omega
  exact .inr ⟨g, e, by omega, mj (mj (mj hr hne 0 _) hne 1 _) hne 2 _⟩
end
section
open Go.RowKit Go.Sort
theorem ic (F : List Int → Int → Bool) (A : List Int) : ∀ (r : Nat) (ids l : List Int), l ∈ dR F A r ids → l.length = ids.length + r
 | 0, ids, l, h => by
  simp only [dR, List.mem_singleton] at h
  subst h
  omega
 | r + 1, ids, l, h => by
  simp only [dR, List.mem_append, List.mem_flatMap] at h
  rcases h with ⟨a, _, h⟩ | h
  ·have := ic F A r _ l h
   rw [List.length_append] at this
   simp at this
   omega
  ·have := ic F A r _ l h
   rw [List.length_append] at this
   simp at this
   omega
theorem lF (m : Nat) : ∀ (X : List (List Int)) (g : List Int × Nat), (∀ l ∈ X, l.length ≤ m) → g.1.length ≤ m → (X.foldl bT g).1.length ≤ m
 | [], g, _, h => h
 | x :: X, g, hX, h => by
  rw [List.foldl_cons]
  refine lF m X _ (fun l hl => hX l (List.mem_cons_of_mem _ hl)) ?_
  unfold bT
  split
  ·exact h
  ·split
   ·exact hX x (List.mem_cons_self ..)
   ·exact h
theorem lK (L : List St) (S : List D3) : (bB L S).length ≤ 6 := by
 by_cases hb : 400 < L.length ∨ 400 < S.length
 ·rw [(nz hb).1]; simp
 ·cases ho : jV L S
  ·rw [(lL hb ho).1]; simp
  ·rw [(im hb ho).1, (iT L S).1]
   have hp : aN S = true := by unfold jV at ho; simp at ho; exact ho.2
   have h6 := (bq hp).1
   split
   ·refine Nat.le_trans (lF S.length _ _ (fun l hl => ?_) (by simp)) h6
    have := ic _ _ _ _ _ hl
    simp at this
    omega
   ·simp
theorem fK.sliceI {w : World} {t : TypeId} {c lo hi n : Nat} {v : Value} {f : Nat → Value} (h : fK w t c lo hi n v f) : ∃ a k, v = .slice a n k := by
 rcases h with ⟨rfl, a, k, rfl⟩ | ⟨g, k, rfl, _⟩
 ·exact ⟨a, k, rfl⟩
 ·exact ⟨_, k, rfl⟩
theorem sR {w' : World} {B : Nat} {ids : List Int} {cnt code : Int} {e : Ending} (h : vg w' B ids cnt code e) : ∃ a k, e = .returned (.agg #[.slice a ids.length k, .int .i64 cnt, .int .i64 code]) ∧ fK w' 2 1 B w'.heap.size ids.length (.slice a ids.length k) (nS (fun j => ids.getD j 0) (fun _ => false)) := by
 obtain ⟨v, he, ho⟩ := h
 have hp : fK w' 2 1 B w'.heap.size ids.length v (nS (fun j => ids.getD j 0) (fun _ => false)) := fK.of ho (fun j h => by
  have h' : j < ids.length := by omega
  show (ids.map (fun z => Value.int .i64 z))[j]? = some (.int .i64 (ids.getD j 0))
  rw [List.getElem?_map, List.getElem?_eq_getElem h', List.getD_eq_getElem?_getD, List.getElem?_eq_getElem h']
  rfl)
 obtain ⟨a, k, rfl⟩ := hp.sliceI
 exact ⟨a, k, he, hp⟩
def pj (w : World) (a : Option Addr) (n : Nat) (row : Option Nat) : Prop := (n = 0 ∧ row = none) ∨ ∃ g f, a = some ⟨g, 0, none⟩ ∧ row = some g ∧ dO w 80 g (n * 4) f
def Mkd (w : World) (a : Option Addr) (n : Nat) (row : Option Nat) : Prop := (n = 0 ∧ row = none) ∨ ∃ g, a = some ⟨g, 0, none⟩ ∧ row = some g ∧ dO w 80 g (n * 4) (fun j => 1 + (j : Int))
theorem pj.kept {w w' : World} {a : Option Addr} {n : Nat} {row : Option Nat} (h : pj w a n row) (hB : Below w.heap.size w w') : pj w' a n row := by
 rcases h with h | ⟨g, f, h1, h2, h3⟩
 ·exact .inl h
 ·exact .inr ⟨g, f, h1, h2, h3.kept hB⟩
theorem Mkd.kept {w w' : World} {a : Option Addr} {n : Nat} {row : Option Nat} (h : Mkd w a n row) (hB : Below w.heap.size w w') : Mkd w' a n row := by
 rcases h with h | ⟨g, h1, h2, h3⟩
 ·exact .inl h
 ·exact .inr ⟨g, h1, h2, h3.kept hB⟩
theorem pj.lt {w : World} {a : Option Addr} {n : Nat} {row : Option Nat} (h : pj w a n row) {g : Nat} (e : row = some g) : g < w.heap.size := by
 rcases h with ⟨_, h⟩ | ⟨g', f, h1, h2, h3⟩
 ·rw [h] at e; cases e
 ·rw [h2] at e; obtain rfl := Option.some.inj e; exact h3.lt
theorem bP {B : Nat} {w w1 w2 : World} {row : Option Nat} (h : Below B w w1) (hg : w1.grownBy w2 row) (hB : B ≤ w1.heap.size) (hr : ∀ g, row = some g → B ≤ g) : Below B w w2 :=
 h.trans ⟨hg.os, hg.tape, hg.output, hg.size, fun k hk => hg.block k (by omega) (fun e => by have := hr k e.symm; omega)⟩
def aS (L : List St) : List Value := L.flatMap stC
theorem dG (L : List St) : (aS L).length = L.length * 4 := by
 unfold aS
 induction L with
 | nil => rfl
 | cons x l ih => simp [List.flatMap_cons, stC] at *; omega
theorem jS (L : List St) : ∀ (i : Nat), i < L.length → (aS L)[i * 4]? = some (.int .i64 (stA L i).1) ∧ (aS L)[i * 4 + 1]? = some (.int .i64 (stA L i).2.1) ∧ (aS L)[i * 4 + 2]? = some (.int .i64 (stA L i).2.2.1) ∧ (aS L)[i * 4 + 3]? = some (.int .i64 (stA L i).2.2.2) := by
 induction L with
 | nil => intro i hi; simp at hi
 | cons x l ih =>
  intro i hi
  match i with
  | 0 => exact ⟨rfl, rfl, rfl, rfl⟩
  | i + 1 =>
   have h := ih i (by simpa using hi)
   have e : ∀ r, (aS (x :: l))[(i + 1) * 4 + r]? = (aS l)[i * 4 + r]? := fun r => by
    rw [show (i + 1) * 4 + r = (i * 4 + r) + 4 by omega]
    rfl
   have e2 : stA (x :: l) (i + 1) = stA l i := rfl
   rw [e2]
   exact ⟨by have := e 0; simp only [Nat.add_zero] at this; rw [this]; exact h.1, by rw [e 1]; exact h.2.1, by rw [e 2]; exact h.2.2.1, by rw [e 3]; exact h.2.2.2⟩
theorem kf {w : World} {B : Nat} {v : Value} {L : List St} (h : w.ownsRow B 80 4 v L.length (aS L)) : ∃ a cap, v = .slice a L.length cap ∧ L.length ≤ cap ∧ cap ≤ maxLen ∧ aH w a L L.length := by
 rcases h.2 with ⟨h1, h0⟩ | ⟨g, cap, cur, hv, hb, hg, hnc, hcm, hcs, htake⟩
 ·exact ⟨none, 0, by rw [h1, h0], by omega, Nat.zero_le _, .inl h0⟩
 ·refine ⟨_, cap, hv, hnc, hcm, .inr ⟨g, 0, rfl, (Array.getElem?_eq_some_iff.1 hg).1, fun i hi => ?_⟩⟩
  have hc : ∀ j, j < L.length * 4 → w.cell? ⟨g, j, none⟩ = (aS L)[j]? := fun j hj => by
   rw [cell_of_row w g j cur _ _ hg, ← htake, List.getElem?_take, if_pos hj]
   simp
  obtain ⟨e0, e1, e2, e3⟩ := jS L i hi
  rw [Nat.zero_add]
  exact ⟨by rw [hc _ (by omega)]; exact e0, by rw [hc _ (by omega)]; exact e1, by rw [hc _ (by omega)]; exact e2, by rw [hc _ (by omega)]; exact e3⟩
theorem lC (L : List St) (j : Nat) (hj : j < L.length * 4) : ∃ z, (aS L)[j]? = some (.int .i64 z) := by
 obtain ⟨e0, e1, e2, e3⟩ := jS L (j / 4) (by omega)
 have h : j = j / 4 * 4 ∨ j = j / 4 * 4 + 1 ∨ j = j / 4 * 4 + 2 ∨ j = j / 4 * 4 + 3 := by omega
 rcases h with h | h | h | h
 ·rw [h]; exact ⟨_, e0⟩
 ·rw [h]; exact ⟨_, e1⟩
 ·rw [h]; exact ⟨_, e2⟩
 ·rw [h]; exact ⟨_, e3⟩
theorem uE {w : World} {B : Nat} {v : Value} {L : List St} {a : Option Addr} {cap : Nat} (h : w.ownsRow B 80 4 v L.length (aS L)) (hv : v = .slice a L.length cap) : ∃ row, pj w a L.length row ∧ ∀ g, row = some g → B ≤ g := by
 rcases h.2 with ⟨h1, h0⟩ | ⟨g, cap', cur, hv', hb, hg, hnc, hcm, hcs, htake⟩
 ·exact ⟨none, .inl ⟨h0, rfl⟩, fun g e => by cases e⟩
 ·rw [hv] at hv'
  injection hv' with e1 e2 e3
  refine ⟨some g, .inr ⟨g, fun j => if h : j < L.length * 4 then Classical.choose (lC L j h) else 0, e1, rfl, cur, hg, fun j hj => ?_⟩, fun g' e => by obtain rfl := Option.some.inj e; exact hb⟩
  have e4 : cur[j]? = (aS L)[j]? := by
   rw [← htake, List.getElem?_take, if_pos hj]
   simp
  rw [e4]
  simp only [hj, dif_pos]
  exact Classical.choose_spec (lC L j hj)
end
end Go.Proofs.YtgiodlllokdcdaaGreatDoor
