/- The law on PairsOf, walked. -/
import Derived.Test.YthmelofbdbplnaaDoorPairS
import Derived.Test.YthmelofbdbplnaaDoorListP
import Derived.Test.YthmelofbdbplnaaDoorMarkS
namespace Go.Proofs.YthmelofbdbplnaaDoor
open Go.RowKit Go.Sort
set_option linter.unusedVariables false

def pairI (R : List P2) (j : Nat) : Int := if j % 2 = 0 then (prA R (j / 2)).1 else (prA R (j / 2)).2
theorem pairI_at (R : List P2) (fB : Nat → Bool) (j : Nat) (h : j < R.length * 2) : (flatP R)[j]? = some (valPairS (pairI R) fB j) := by
  have e := flatP_at R (j / 2) (by omega)
  unfold valPairS pairI
  by_cases hj : j % 2 = 0
  · rw [if_pos hj, ← e.1]
    congr 1
    omega
  · rw [if_neg hj, ← e.2]
    congr 1
    omega
/-- a right list has at most 12 stars, so so many pairs -/
theorem pairsR_len (L : List St) : (pairsR L).length ≤ 200 := by
  unfold pairsR
  split
  · rename_i h
    have h1 := (sky_ok h).1
    have := allP_len L h1 L.length (Nat.le_refl _)
    omega
  · simp
theorem row_of_stars {w : World} {b n : Nat} {L : List St} (h : OwnS w b n L n) : ∃ f, RowAt w 41 b (n * 4) f := by
  obtain ⟨cur, hc, hn, hs⟩ := h
  refine ⟨fun j => match cur[j]? with | some (.int _ v) => v | _ => 0, cur, hc, fun j hj => ?_⟩
  obtain ⟨h0, h1, h2, h3⟩ := hs (j / 4) (by omega)
  have hm : j = j / 4 * 4 ∨ j = j / 4 * 4 + 1 ∨ j = j / 4 * 4 + 2 ∨ j = j / 4 * 4 + 3 := by omega
  have e : ∃ z : Int, cur[j]? = some (.int .i64 z) := by
    rcases hm with e | e | e | e
    · exact ⟨_, by rw [e]; exact h0⟩
    · exact ⟨_, by rw [e]; exact h1⟩
    · exact ⟨_, by rw [e]; exact h2⟩
    · exact ⟨_, by rw [e]; exact h3⟩
  obtain ⟨z, hz⟩ := e
  simp only [hz]

set_option maxHeartbeats 4000000 in
set_option maxRecDepth 100000 in
theorem lawPairsOf (L : List St) (ar : Option Addr) (cap : Nat) (p : Addr) (w : World) (hn : L.length ≤ 1048576) (hS : Stars w ar L L.length) (hE : ErrSky p w) :
    Calls Tryd.prog 3 #[.slice ar L.length cap] w fun e w' => e = .returned (.bool true) ∧ Below w.heap.size w w' := by
  have HS := hide hS
  have HE := hide hE
  clear hS hE
  have hm8 : 1048576 ≤ maxLen := by decide +kernel
  have cT := hide (fun W hW => toStarS_any L ar cap W hn hW)
  obtain ⟨m, fI, hm, cS, cR⟩ : ∃ (m : Nat) (fI : Nat → Int), m ≤ 200 ∧ Hid (∀ (W : World) (q k0 : Nat), Stars W (some ⟨q, 0, none⟩) L L.length → Calls Tryd.prog 6 #[.slice (some ⟨q, 0, none⟩) L.length k0] W fun e w' => ∃ v, e = .returned v ∧ PRow w' 50 2 W.heap.size w'.heap.size m v (valPairS fI (fun _ => false)) ∧ Below W.heap.size W w')
      ∧ Hid (∀ (W : World) (q : Nat), Stars W (some ⟨q, 0, none⟩) L L.length → ErrSky p W → Calls Tryd.prog 8 #[.slice (some ⟨q, 0, none⟩) L.length L.length] W fun e w' => ∃ v, e = .returned v ∧ PRow w' 50 2 W.heap.size w'.heap.size m v (valPairS fI (fun _ => false)) ∧ Below W.heap.size W w') := by
    refine ⟨_, pairI (pairsR L), pairsR_len L, hide (fun W q k0 hW => (specPairsOf_any L _ k0 W hn hW).mono fun e w' h => ?_), hide (fun W q hW hE => (pairsOf_any L _ _ p W hn (Nat.le_refl _) (by omega) hW hE).mono fun e w' h => ?_)⟩
    · obtain ⟨⟨g, k, he, ho⟩, hb⟩ := h
      exact ⟨_, he, PRow.of ho (pairI_at _ _), hb⟩
    · obtain ⟨⟨v, he, ho⟩, hb⟩ := h
      exact ⟨v, he, PRow.of ho (pairI_at _ _), hb⟩
  generalize L.length = n at *
  have h0 : ¬ (1048576 : Int) - (n : Int) < 0 := by omega
  go_enter Tryd.func3, Tryd.ntmps3
  go_wp2_with fail
  refine (szStarS_any ar n cap _ hn).mono ?_
  rintro e w1 ⟨rfl, hw⟩
  rw [hw]
  clear hw w1
  go_wp2_with fail
  refine (unhide cT _ (unhide HS)).mono ?_
  rintro e w1 ⟨rfl, ho, hx⟩
  have O1 := hide ho
  have B1 := hide hx
  clear ho hx
  go_wp2_with fail
  refine (unhide cS _ _ n (unhide O1).stars).mono ?_
  rintro e w2 ⟨v0, rfl, hp, hx⟩
  have P2 := hide hp
  have B2 := hide (below_call (unhide B1) hx)
  clear hp hx B1 O1
  go_wp2_with fail
  refine (unhide cT _ ((unhide HS).kept (unhide B2))).mono ?_
  rintro e w3 ⟨rfl, ho, hx⟩
  have O3 := hide ho
  have P3 := hide ((unhide P2).kept hx)
  have B3 := hide (below_call (unhide B2) hx)
  have l3 : w2.heap.size < w3.heap.size := ho.lt
  have l2 := (unhide B2).size
  generalize w2.heap.size = b3 at *
  clear ho hx B2 P2
  go_wp2_with fail
  refine (unhide cR _ _ (unhide O3).stars ((unhide HE).kept (unhide B3))).mono ?_
  rintro e w4 ⟨v1, rfl, hp, hx⟩
  have G4 := hide hp
  have P4 := hide ((unhide P3).kept hx)
  have O4 := hide ((unhide O3).kept hx)
  have B4 := hide (below_call (unhide B3) hx)
  have l4 := hx.size
  generalize w3.heap.size = lo at *
  clear hp hx B3 P3 O3
  go_wp2_with fail
  refine (eqPairS_any m _ _ _ _ v1 v0 fI _ _ (by omega) (unhide G4) (unhide P4)).mono ?_
  rintro e w5 ⟨rfl, hx⟩
  have G5 := hide (((unhide G4).wide (Nat.le_refl _) hx.size).kept hx)
  have P5 := hide ((unhide P4).kept hx)
  have O5 := hide ((unhide O4).kept hx)
  have B5 := hide (below_call (unhide B4) hx)
  have l5 := hx.size
  clear hx B4 P4 O4 G4
  go_wp2_with fail
  refine (unhide cT _ ((unhide HS).kept (unhide B5))).mono ?_
  rintro e w6 ⟨rfl, ho, hx⟩
  have OT := hide ho
  have G6 := hide ((unhide G5).kept hx)
  have P6 := hide ((unhide P5).kept hx)
  have O6 := hide ((unhide O5).kept hx)
  have B6 := hide (below_call (unhide B5) hx)
  have l6 := hx.size
  generalize w5.heap.size = hi at *
  clear ho hx B5 P5 O5 G5
  go_wp2_with fail
  refine (eqStarS_same L n (some ⟨b3, 0, none⟩) (some ⟨hi, 0, none⟩) n n _ hn (unhide O6).stars (unhide OT).stars).mono ?_
  rintro e w7 ⟨rfl, hx⟩
  have G7 := hide ((unhide G6).kept hx)
  have P7 := hide ((unhide P6).kept hx)
  have O7 := hide ((unhide O6).kept hx)
  have B7 := hide (below_call (unhide B6) hx)
  have l7 := hx.size
  clear hx B6 P6 O6 G6 OT
  go_wp2_with fail
  obtain ⟨fs, hfs⟩ := row_of_stars (unhide O7)
  refine (markStarS_any n n b3 fs _ hn hfs).mono ?_
  rintro e w8 ⟨rfl, _, hg⟩
  have ha := Apart.of (lo := b3) (hi := b3 + 1) hg (Nat.le_refl _) (by omega)
  have G8 := hide ((unhide G7).apart ha (by omega))
  have P8 := hide ((unhide P7).apart ha (by omega))
  have B8 := hide (ha.below (unhide B7) (by omega) (by omega))
  have l8 := ha.size
  clear hg ha hfs B7 P7 O7 G7
  have hk0 : ¬ (1 + (n : Int) * 4) < 0 := by omega
  have hk1 : decide ((1 + (n : Int) * 4) < 0) = false := by simp; omega
  go_wp2_with fail
  refine (eqPairS_any m _ _ _ _ v1 v0 fI _ _ (by omega) (unhide G8) (unhide P8)).mono ?_
  rintro e w9 ⟨rfl, hx⟩
  have G9 := hide ((unhide G8).kept hx)
  have P9 := hide ((unhide P8).kept hx)
  have B9 := hide (below_call (unhide B8) hx)
  have l9 := hx.size
  clear hx B8 P8 G8
  go_wp2_with fail
  refine (markPairS_any m lo hi v1 _ _ (by omega) (unhide G9)).mono ?_
  rintro e wa ⟨rfl, hp, ha⟩
  have Ga := hide hp
  have Pa := hide ((unhide P9).apart ha (by omega))
  have Ba := hide (ha.below (unhide B9) (by omega) (by omega))
  have la := ha.size
  clear hp ha B9 P9 G9
  have hm0 : ¬ (1 + (m : Int) * 2) < 0 := by omega
  go_wp2_with fail
  refine (heldPairS_any m lo hi v1 _ (by omega) (unhide Ga)).mono ?_
  rintro e wh ⟨rfl, hw⟩
  rw [hw]
  clear hw wh
  go_wp2_with fail
  refine (unhide cT _ ((unhide HS).kept (unhide Ba))).mono ?_
  rintro e wb ⟨rfl, ho, hx⟩
  have Ob := hide ho
  have Gb := hide ((unhide Ga).kept hx)
  have Pb := hide ((unhide Pa).kept hx)
  have Bb := hide (below_call (unhide Ba) hx)
  clear ho hx Ba Pa Ga
  go_wp2_with fail
  refine (unhide cR _ _ (unhide Ob).stars ((unhide HE).kept (unhide Bb))).mono ?_
  rintro e wc ⟨v2, rfl, hp, hx⟩
  have Hc := hide hp
  have Gc := hide ((unhide Gb).kept hx)
  have Pc := hide ((unhide Pb).kept hx)
  have Bc := hide (below_call (unhide Bb) hx)
  clear hp hx Bb Pb Gb Ob
  go_wp2_with fail
  refine (eqPairS_any m _ _ _ _ v2 v0 fI _ _ (by omega) (unhide Hc) (unhide Pc)).mono ?_
  rintro e wd ⟨rfl, hx⟩
  have Gd := hide ((unhide Gc).kept hx)
  have Bd := hide (below_call (unhide Bc) hx)
  clear hx Bc Pc Gc Hc
  go_wp2_with fail
  refine (heldPairS_any m lo hi v1 _ (by omega) (unhide Gd)).mono ?_
  rintro e wh ⟨rfl, hw⟩
  rw [hw]
  clear hw wh
  go_wp2_with fail
  go_ret
  exact ⟨rfl, unhide Bd⟩
set_option maxRecDepth 100000 in
theorem lawPairsOf_big (n : Nat) (ar : Option Addr) (cap : Nat) (w : World) (hn : 1048576 < n) (hm : n ≤ 9223372036854775807) :
    Calls Tryd.prog 3 #[.slice ar n cap] w fun e w' => e = .returned (.bool true) ∧ Below w.heap.size w w' := by
  go_enter Tryd.func3, Tryd.ntmps3
  go_wp2_with fail
  refine (szStarS_big ar n cap _ hn hm).mono ?_
  rintro e w1 ⟨rfl, hw⟩
  rw [hw]
  go_wp2_with fail
  go_ret
  exact ⟨rfl, Below.refl _ _⟩
theorem lawPairsOf_all (L : List St) (ar : Option Addr) (len cap : Nat) (hl : L.length = len) (hm : len ≤ maxLen) (w : World) (hS : Stars w ar L len) (hE : ∃ p, ErrSky p w) :
    Calls Tryd.prog 3 #[.slice ar len cap] w fun e w' => e = .returned (.bool true) ∧ Below w.heap.size w w' := by
  obtain ⟨p, hp⟩ := hE
  subst hl
  have hm' : maxLen ≤ 9223372036854775807 := by decide +kernel
  by_cases h : L.length ≤ 1048576
  · exact lawPairsOf L ar cap p w h hS hp
  · exact lawPairsOf_big L.length ar cap w (by omega) (by omega)
end Go.Proofs.YthmelofbdbplnaaDoor
