/- Plain facts on turns, as the law asks them: a turn back undoes a turn; two turns one behind the other; a turn and its turn back together are none; nothing of the program in them. -/
import Derived.Test.YtijpnnooenpjoaaDoorTurnMath2
namespace Go.Proofs.YtijpnnooenpjoaaDoor
open Go.RowKit
set_option linter.unusedVariables false

theorem bk_ap (a b c d x y z : Int) : apX (bS a * a) (bS a * -b) (bS a * -c) (bS a * -d) x y z = apX a (-b) (-c) (-d) x y z ∧ apY (bS a * a) (bS a * -b) (bS a * -c) (bS a * -d) x y z = apY a (-b) (-c) (-d) x y z ∧ apZ (bS a * a) (bS a * -b) (bS a * -c) (bS a * -d) x y z = apZ a (-b) (-c) (-d) x y z := by
  have h := ap_scale (bS a) a (-b) (-c) (-d) x y z
  rw [bS_sq] at h
  simpa using h
theorem prime_near {a b c d x y z : Int} (ht : rightT a b c d = true) (h : nearB x y z) :
    ∃ p q r g : Int, prI (rightB (apX a b c d x y z) (apY a b c d x y z) (apZ a b c d x y z)) (gI (apX a b c d x y z) (apY a b c d x y z) (apZ a b c d x y z)) (apX a b c d x y z) = p ∧ prI (rightB (apX a b c d x y z) (apY a b c d x y z) (apZ a b c d x y z)) (gI (apX a b c d x y z) (apY a b c d x y z) (apZ a b c d x y z)) (apY a b c d x y z) = q ∧ prI (rightB (apX a b c d x y z) (apY a b c d x y z) (apZ a b c d x y z)) (gI (apX a b c d x y z) (apY a b c d x y z) (apZ a b c d x y z)) (apZ a b c d x y z) = r ∧
      apX a b c d x y z = g * p ∧ apY a b c d x y z = g * q ∧ apZ a b c d x y z = g * r ∧ 0 < g ∧ wideB p q r = true ∧ dot p q r p q r ≤ 1130000 := by
  have hw := near_ap ht h
  have hr : rightB (apX a b c d x y z) (apY a b c d x y z) (apZ a b c d x y z) = true := by unfold wideB at hw; rw [Bool.and_eq_true] at hw; exact hw.1
  have hb : withinB 1800 (apX a b c d x y z) (apY a b c d x y z) (apZ a b c d x y z) = true := by unfold wideB at hw; rw [Bool.and_eq_true] at hw; exact hw.2
  have hne := ap_ne ht (near_ne h)
  obtain ⟨p, q, r, hp, hq, hr', ep, eq, er, hg⟩ := prime_of hr
  rw [hr]
  refine ⟨p, q, r, _, hp, hq, hr', ep, eq, er, hg, ?_, ?_⟩
  · rw [withinB_iff] at hb
    generalize gI (apX a b c d x y z) (apY a b c d x y z) (apZ a b c d x y z) = g at *
    refine wide_of (withinB_iff.2 ⟨part_le hg (by rw [← ep]; exact hb.1), part_le hg (by rw [← eq]; exact hb.2.1), part_le hg (by rw [← er]; exact hb.2.2)⟩) ?_
    rintro ⟨h1, h2, h3⟩
    rw [h1] at ep
    rw [h2] at eq
    rw [h3] at er
    exact hne ⟨by rw [ep]; simp, by rw [eq]; simp, by rw [er]; simp⟩
  · have hd := ap_dot a b c d x y z x y z
    have hn := nT_le (rightT_iff.1 ht).1
    have hpn := nT_pos (rightT_ne ht)
    have hn2 := mulB (A := 100) (B := 100) (a := nT a b c d) (b := nT a b c d) (by omega) (by omega)
    have h0 : 0 ≤ dot x y z x y z := Int.le_of_lt (sq_pos (near_ne h))
    have hm := mulB (A := 10000) (B := 113) (a := nT a b c d * nT a b c d) (b := dot x y z x y z) (by omega) (by have := near_dot h; omega)
    generalize gI (apX a b c d x y z) (apY a b c d x y z) (apZ a b c d x y z) = g at *
    have hgd : dot (apX a b c d x y z) (apY a b c d x y z) (apZ a b c d x y z) (apX a b c d x y z) (apY a b c d x y z) (apZ a b c d x y z) = g * g * dot p q r p q r := by
      rw [ep, eq, er]; unfold dot; grind
    have hq0 : 0 ≤ dot p q r p q r := by have h1 := sqn p; have h2 := sqn q; have h3 := sqn r; unfold dot; omega
    have hgg : 1 ≤ g * g := by have := Int.mul_pos hg hg; omega
    have := Int.mul_le_mul_of_nonneg_right hgg hq0
    omega
theorem undo {a b c d x y z p q r g : Int} (ht : rightT a b c d = true) (h : nearB x y z) (hg : 0 < g) (ep : apX a b c d x y z = g * p) (eq : apY a b c d x y z = g * q) (er : apZ a b c d x y z = g * r) :
    sameB (apX (bS a * a) (bS a * -b) (bS a * -c) (bS a * -d) p q r) (apY (bS a * a) (bS a * -b) (bS a * -c) (bS a * -d) p q r) (apZ (bS a * a) (bS a * -b) (bS a * -c) (bS a * -d) p q r) x y z = true := by
  obtain ⟨e1, e2, e3⟩ := bk_ap a b c d p q r
  rw [e1, e2, e3]
  obtain ⟨l1, l2, l3⟩ := ap_lin g a (-b) (-c) (-d) p q r
  obtain ⟨k1, k2, k3⟩ := ap_back a b c d x y z
  rw [ep, eq, er] at k1 k2 k3
  rw [l1] at k1
  rw [l2] at k2
  rw [l3] at k3
  have hp := nT_pos (rightT_ne ht)
  have hn := nT_le (rightT_iff.1 ht).1
  have hn2 := mulB (A := 100) (B := 100) (a := nT a b c d) (b := nT a b c d) (by omega) (by omega)
  have hpos := Int.mul_pos hp hp
  have hne := near_ne h
  have hs := near_small h
  have hrx : rightB x y z = true := by unfold smallB at hs; rw [Bool.and_eq_true] at hs; exact hs.1
  obtain ⟨hx, hy, hz⟩ := h
  generalize nT a b c d * nT a b c d = n at *
  have m1 := mulB (A := 10000) (B := 9) (a := n) (b := x) (by omega) (by omega)
  have m2 := mulB (A := 10000) (B := 9) (a := n) (b := y) (by omega) (by omega)
  have m3 := mulB (A := 10000) (B := 9) (a := n) (b := z) (by omega) (by omega)
  refine same_of hg hpos ?_ hrx k1 k2 k3
  refine right_of (M := 90000) (by omega) (withinB_iff.2 ⟨part_le hg (by rw [k1]; omega), part_le hg (by rw [k2]; omega), part_le hg (by rw [k3]; omega)⟩) ?_
  rintro ⟨z1, z2, z3⟩
  rw [z3] at k3
  have := Int.mul_pos hpos (show 0 < z by omega)
  rw [← k3] at this
  simp at this
theorem together {s1 s2 s3 s4 t1 t2 t3 t4 x y z p q r g : Int} (hs : rightT s1 s2 s3 s4 = true) (ht : rightT t1 t2 t3 t4 = true) (h : nearB x y z) (hc : coK s1 s2 s3 s4 t1 t2 t3 t4 = 0) (hg : 0 < g)
    (ep : apX t1 t2 t3 t4 x y z = g * p) (eq : apY t1 t2 t3 t4 x y z = g * q) (er : apZ t1 t2 t3 t4 x y z = g * r) (hw : wideB p q r = true) (hd : dot p q r p q r ≤ 1130000) :
    ∃ a b c d : Int, coP s1 s2 s3 s4 t1 t2 t3 t4 (coA s1 s2 s3 s4 t1 t2 t3 t4) = a ∧ coP s1 s2 s3 s4 t1 t2 t3 t4 (coB s1 s2 s3 s4 t1 t2 t3 t4) = b ∧ coP s1 s2 s3 s4 t1 t2 t3 t4 (coC s1 s2 s3 s4 t1 t2 t3 t4) = c ∧ coP s1 s2 s3 s4 t1 t2 t3 t4 (coD s1 s2 s3 s4 t1 t2 t3 t4) = d ∧ rightT a b c d = true ∧
      sameB (apX a b c d x y z) (apY a b c d x y z) (apZ a b c d x y z) (apX s1 s2 s3 s4 p q r) (apY s1 s2 s3 s4 p q r) (apZ s1 s2 s3 s4 p q r) = true := by
  have hcr : coR s1 s2 s3 s4 t1 t2 t3 t4 = true := by unfold coR; rw [hs, ht]; rfl
  have hoc : ofC (coA s1 s2 s3 s4 t1 t2 t3 t4) (coB s1 s2 s3 s4 t1 t2 t3 t4) (coC s1 s2 s3 s4 t1 t2 t3 t4) (coD s1 s2 s3 s4 t1 t2 t3 t4) = 0 := by unfold coK at hc; rw [if_pos hcr] at hc; exact hc
  have hP : ∀ v, coP s1 s2 s3 s4 t1 t2 t3 t4 v = v.tdiv (sT (coA s1 s2 s3 s4 t1 t2 t3 t4) (coB s1 s2 s3 s4 t1 t2 t3 t4) (coC s1 s2 s3 s4 t1 t2 t3 t4) (coD s1 s2 s3 s4 t1 t2 t3 t4)) := by
    intro v; unfold coP ofP; rw [if_pos hcr, if_pos hoc]
  obtain ⟨hin, hz, hr⟩ := ofC_right hoc
  obtain ⟨⟨a, ha⟩, ⟨b, hb⟩, ⟨c, hc'⟩, ⟨d, hd'⟩⟩ := sT_dvd (coA s1 s2 s3 s4 t1 t2 t3 t4) (coB s1 s2 s3 s4 t1 t2 t3 t4) (coC s1 s2 s3 s4 t1 t2 t3 t4) (coD s1 s2 s3 s4 t1 t2 t3 t4)
  have hne := sT_ne hz
  obtain ⟨c1, c2, c3⟩ := ap_co s1 s2 s3 s4 t1 t2 t3 t4 x y z
  obtain ⟨l1, l2, l3⟩ := ap_lin g s1 s2 s3 s4 p q r
  rw [ep, eq, er] at c1 c2 c3
  rw [l1] at c1
  rw [l2] at c2
  rw [l3] at c3
  rw [hP, hP, hP, hP]
  generalize sT (coA s1 s2 s3 s4 t1 t2 t3 t4) (coB s1 s2 s3 s4 t1 t2 t3 t4) (coC s1 s2 s3 s4 t1 t2 t3 t4) (coD s1 s2 s3 s4 t1 t2 t3 t4) = k at *
  rw [ha, hb, hc', hd'] at c1 c2 c3
  have ea : (coA s1 s2 s3 s4 t1 t2 t3 t4).tdiv k = a := by rw [ha]; exact Int.mul_tdiv_cancel_left a hne
  have eb : (coB s1 s2 s3 s4 t1 t2 t3 t4).tdiv k = b := by rw [hb]; exact Int.mul_tdiv_cancel_left b hne
  have ec : (coC s1 s2 s3 s4 t1 t2 t3 t4).tdiv k = c := by rw [hc']; exact Int.mul_tdiv_cancel_left c hne
  have ed : (coD s1 s2 s3 s4 t1 t2 t3 t4).tdiv k = d := by rw [hd']; exact Int.mul_tdiv_cancel_left d hne
  rw [ea, eb, ec, ed] at hr
  obtain ⟨m1, m2, m3⟩ := ap_scale k a b c d x y z
  rw [m1] at c1
  rw [m2] at c2
  rw [m3] at c3
  have hX := near_ap hr h
  have hXr : rightB (apX a b c d x y z) (apY a b c d x y z) (apZ a b c d x y z) = true := by unfold wideB at hX; rw [Bool.and_eq_true] at hX; exact hX.1
  have hwr : rightB p q r = true := by unfold wideB at hw; rw [Bool.and_eq_true] at hw; exact hw.1
  have hYr : rightB (apX s1 s2 s3 s4 p q r) (apY s1 s2 s3 s4 p q r) (apZ s1 s2 s3 s4 p q r) = true :=
    right_of (M := 110000) (by omega) (ap_bound hs hd (by omega) (by omega)) (ap_ne hs (rightB_iff.1 hwr).2)
  exact ⟨a, b, c, d, ea, eb, ec, ed, hr, same_of (sqp hne) hg hXr hYr c1 c2 c3⟩
theorem one_right : rightT 1 0 0 0 = true := by decide
theorem gT_one (n : Int) : gT n 0 0 0 = (n.natAbs : Int) := by
  unfold gT
  simp
theorem back_one {a b c d : Int} (h : rightT a b c d = true) :
    coA (bS a * a) (bS a * -b) (bS a * -c) (bS a * -d) a b c d = bS a * nT a b c d ∧ coB (bS a * a) (bS a * -b) (bS a * -c) (bS a * -d) a b c d = 0 ∧ coC (bS a * a) (bS a * -b) (bS a * -c) (bS a * -d) a b c d = 0 ∧ coD (bS a * a) (bS a * -b) (bS a * -c) (bS a * -d) a b c d = 0 := by
  unfold coA coB coC coD nT
  refine ⟨?_, ?_, ?_, ?_⟩ <;> grind
theorem back_co {a b c d : Int} (h : rightT a b c d = true) :
    coK (bS a * a) (bS a * -b) (bS a * -c) (bS a * -d) a b c d = 0 ∧ coP (bS a * a) (bS a * -b) (bS a * -c) (bS a * -d) a b c d (coA (bS a * a) (bS a * -b) (bS a * -c) (bS a * -d) a b c d) = 1 ∧ coP (bS a * a) (bS a * -b) (bS a * -c) (bS a * -d) a b c d (coB (bS a * a) (bS a * -b) (bS a * -c) (bS a * -d) a b c d) = 0 ∧ coP (bS a * a) (bS a * -b) (bS a * -c) (bS a * -d) a b c d (coC (bS a * a) (bS a * -b) (bS a * -c) (bS a * -d) a b c d) = 0 ∧ coP (bS a * a) (bS a * -b) (bS a * -c) (bS a * -d) a b c d (coD (bS a * a) (bS a * -b) (bS a * -c) (bS a * -d) a b c d) = 0 := by
  have hcr : coR (bS a * a) (bS a * -b) (bS a * -c) (bS a * -d) a b c d = true := by unfold coR; rw [back_right h, h]; rfl
  obtain ⟨e1, e2, e3, e4⟩ := back_one h
  have hp := nT_pos (rightT_ne h)
  have hl := nT_le (rightT_iff.1 h).1
  have hne : bS a * nT a b c d ≠ 0 := by rcases bS_cases a with e | e <;> rw [e] <;> omega
  have hs : sT (bS a * nT a b c d) 0 0 0 = bS a * nT a b c d := by
    unfold sT
    rw [gT_one]
    have hf : fT (bS a * nT a b c d) 0 0 0 = bS a * nT a b c d := by unfold fT; rw [if_pos hne]
    rw [hf]
    rcases bS_cases a with e | e <;> rw [e] <;> split <;> omega
  have hd : (bS a * nT a b c d).tdiv (bS a * nT a b c d) = 1 := Int.tdiv_self hne
  have hof : ofC (bS a * nT a b c d) 0 0 0 = 0 := by
    unfold ofC
    rw [hs, hd, Int.zero_tdiv, one_right]
    have hin : inT 1000 (bS a * nT a b c d) 0 0 0 = true := by rw [inT_iff]; rcases bS_cases a with e | e <;> rw [e] <;> omega
    have hz : zeroT (bS a * nT a b c d) 0 0 0 = false := by rw [← Bool.not_eq_true, zeroT_iff]; exact fun e => hne e.1
    rw [hin, hz]; rfl
  unfold coK coP
  rw [hcr, e1, e2, e3, e4]
  unfold ofP
  simp only [if_true, hof, hs, hd, Int.zero_tdiv]
  simp
end Go.Proofs.YtijpnnooenpjoaaDoor
