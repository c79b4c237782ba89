/- The law on Turns, walked. -/
import Derived.Test.YtmoopgdcbbaffaaTsB
import Derived.Test.YtmoopgdcbbaffaaListT
namespace Go.Proofs.Ytmoopgdcbbaffaa
open Go.RowKit Go.Sort
set_option linter.unusedVariables false

theorem flatT_kind : ∀ (R : List T4) (j : Nat), j < R.length * 4 → ∃ z, (flatT R)[j]? = some (.int .i64 z)
  | [], j, h => by simp at h
  | b :: R, j, h => by
    have e : flatT (b :: R) = turn4 b ++ flatT R := by unfold flatT; simp
    rw [e]
    by_cases h5 : j < 4
    · have hc : j = 0 ∨ j = 1 ∨ j = 2 ∨ j = 3 := by omega
      rcases hc with rfl | rfl | rfl | rfl <;> exact ⟨_, rfl⟩
    · have hl : (turn4 b).length = 4 := rfl
      rw [List.getElem?_append_right (by omega), hl]
      exact flatT_kind R (j - 4) (by simp at h; omega)
def tcI (R : List T4) (j : Nat) : Int := match (flatT R)[j]? with | some (.int _ z) => z | _ => 0
theorem flatT_val (R : List T4) (fB : Nat → Bool) (j : Nat) (h : j < R.length * 4) : (flatT R)[j]? = some (valTurnS (tcI R) fB j) := by
  obtain ⟨z, hz⟩ := flatT_kind R j h
  unfold valTurnS tcI
  rw [hz]
theorem belowT {B lo hi : Nat} {w w1 w2 : World} (h : Below B w w1) (ha : Apart lo hi w1 w2) (hB : B ≤ lo) (hs : B ≤ w1.heap.size) : Below B w w2 :=
  h.trans ⟨ha.os, ha.tape, ha.output, ha.size, fun k hk => ha.block k (by omega) (.inl (by omega))⟩
set_option maxHeartbeats 4000000 in
set_option maxRecDepth 100000 in
theorem lawTurns (w : World) : Calls Try.prog 5 #[] w fun e w' => e = .returned (.bool true) ∧ Below w.heap.size w w' := by
  obtain ⟨m, fI, fB, hm, cS, cI⟩ : ∃ (m : Nat) (fI : Nat → Int) (fB : Nat → Bool), m ≤ 625
      ∧ Hid (∀ W : World, Calls Try.prog 7 #[] W fun e w' => ∃ a k, e = .returned (.slice a m k) ∧ PRow w' 26 4 W.heap.size w'.heap.size m (.slice a m k) (valTurnS fI fB) ∧ Below W.heap.size W w')
      ∧ Hid (∀ W : World, Calls Try.prog 6 #[] W fun e w' => ∃ a k, e = .returned (.slice a m k) ∧ PRow w' 26 4 W.heap.size w'.heap.size m (.slice a m k) (valTurnS fI fB) ∧ Below W.heap.size W w') := by
    refine ⟨_, tcI (turnsTo 625), fun _ => false, turns_len 625, hide (fun W => (specTurns_any W).mono fun e w' h => ?_), hide (fun W => (implTurns_any W).mono fun e w' h => ?_)⟩
    · obtain ⟨⟨v, he, ho⟩, hb⟩ := h
      obtain ⟨a, k, rfl⟩ := oSlice ho
      exact ⟨a, k, he, PRow.of ho (flatT_val _ _), hb⟩
    · obtain ⟨⟨v, he, ho⟩, hb⟩ := h
      obtain ⟨a, k, rfl⟩ := oSlice ho
      exact ⟨a, k, he, PRow.of ho (flatT_val _ _), hb⟩
  go_enter Try.func5, Try.ntmps5
  go_wp2_with fail
  refine (unhide cS _).mono ?_
  rintro e W6 ⟨a4, k4, rfl, hp, hx⟩
  have B6 := hide hx
  have S6 := hide hp
  have hb6 := hx.size
  clear hp hx
  go_wp2_with fail
  refine (unhide cI _).mono ?_
  rintro e W8 ⟨a7, k7, rfl, hp, hx⟩
  have B8 := hide (below_call (unhide B6) hx)
  have S8 := hide ((unhide S6).kept hx)
  have G8 := hide hp
  have hb7 := hx.size
  clear hp hx B6 S6
  generalize W6.heap.size = lo at *
  go_wp2_with fail
  refine (eqTurnS_any m _ _ _ _ _ _ fI fB _ (by omega) (unhide G8) (unhide S8)).mono ?_
  rintro e W9 ⟨rfl, hx⟩
  have B9 := hide (below_call (unhide B8) hx)
  have S9 := hide ((unhide S8).kept hx)
  have G9 := hide ((unhide G8).kept hx)
  have hb9 := hx.size
  clear hx B8 S8 G8
  generalize W8.heap.size = hi at *
  go_wp2_with fail
  refine (markTurnS_any m lo hi _ _ _ (by omega) (unhide G9)).mono ?_
  rintro e W11 ⟨rfl, hp, ha⟩
  have G11 := hide hp
  have S11 := hide ((unhide S9).apart ha (.inl (by omega)))
  have B11 := hide (belowT (unhide B9) ha (by omega) (by omega))
  clear hp ha B9 S9 G9
  obtain ⟨K, hK⟩ : ∃ K : Int, K = 1 + (m : Int) * 4 := ⟨_, rfl⟩
  have hk0 : ¬ K < 0 := by omega
  have cH : Hid (∀ W : World, PRow W 26 4 lo hi m (.slice a7 m k7) markTurnSV → Calls Try.prog 18 #[.slice a7 m k7, .int .i64 1] W fun e w' => e = .returned (.int .i64 K) ∧ w' = W) := hide (fun W h => by rw [hK]; exact heldTurnS_any m lo hi _ W (by omega) h)
  rw [← hK]
  clear hK
  go_wp2_with fail
  refine (unhide cH _ (unhide G11)).mono ?_
  rintro e W12 ⟨rfl, rfl⟩
  go_wp2_with fail
  refine (unhide cI _).mono ?_
  rintro e W15 ⟨a9, k9, rfl, hp, hx⟩
  have S15 := hide ((unhide S11).kept hx)
  have G15 := hide ((unhide G11).kept hx)
  have B15 := hide (below_call (unhide B11) hx)
  have H15 := hide hp
  clear hp hx S11 G11 B11
  go_wp2_with fail
  refine (eqTurnS_any m _ _ _ _ _ _ fI fB _ (by omega) (unhide H15) (unhide S15)).mono ?_
  rintro e W16 ⟨rfl, hx⟩
  have G16 := hide ((unhide G15).kept hx)
  have B16 := hide (below_call (unhide B15) hx)
  clear hx S15 G15 B15 H15
  go_wp2_with fail
  refine (unhide cH _ (unhide G16)).mono ?_
  rintro e W17 ⟨rfl, rfl⟩
  go_wp2_with fail
  go_ret
  exact ⟨rfl, unhide B16⟩
end Go.Proofs.Ytmoopgdcbbaffaa
