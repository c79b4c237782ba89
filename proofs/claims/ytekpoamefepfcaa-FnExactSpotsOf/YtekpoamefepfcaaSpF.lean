/- The law on SpotsOf, walked. -/
import Derived.Test.YtekpoamefepfcaaSpE
import Derived.Test.YtekpoamefepfcaaListV
namespace Go.Proofs.Ytekpoamefepfcaa
open Go.RowKit Go.Sort
set_option linter.unusedVariables false

theorem flatV_kind : ∀ (R : List (Int × Int × Int)) (j : Nat), j < R.length * 3 → ∃ z, (flatV R)[j]? = some (.int .i64 z)
  | [], j, h => by simp at h
  | b :: R, j, h => by
    have e : flatV (b :: R) = vec3 b ++ flatV R := by unfold flatV; simp
    rw [e]
    by_cases h5 : j < 3
    · have hc : j = 0 ∨ j = 1 ∨ j = 2 := by omega
      rcases hc with rfl | rfl | rfl <;> exact ⟨_, rfl⟩
    · have hl : (vec3 b).length = 3 := rfl
      rw [List.getElem?_append_right (by omega), hl]
      exact flatV_kind R (j - 3) (by simp at h; omega)
def vcI (R : List (Int × Int × Int)) (j : Nat) : Int := match (flatV R)[j]? with | some (.int _ z) => z | _ => 0
theorem flatV_val (R : List (Int × Int × Int)) (fB : Nat → Bool) (j : Nat) (h : j < R.length * 3) : (flatV R)[j]? = some (valVecS (vcI R) fB j) := by
  obtain ⟨z, hz⟩ := flatV_kind R j h
  unfold valVecS vcI
  rw [hz]
theorem spotsR_len (wd ht : Int) (s : ByteArray) (lv fo : Int) : (spotsR wd ht s lv fo).length ≤ 8 := by
  unfold spotsR
  split
  · have := pick_len wd ht s fo (resB wd ht s lv)
    have := resB_len' wd ht s lv
    omega
  · simp
theorem Blk.apartV {w w' : World} {b lo hi : Nat} {cs : List Value} {t : TypeId} (h : Blk w b cs t) (ha : Apart lo hi w w') (hd : b < lo ∨ hi ≤ b) : Blk w' b cs t := (ha.block b h.lt hd).trans h
theorem belowV {B lo hi : Nat} {w w1 w2 : World} (h : Below B w w1) (ha : Apart lo hi w1 w2) (hB : B ≤ lo) (hs : B ≤ w1.heap.size) : Below B w w2 :=
  h.trans ⟨ha.os, ha.tape, ha.output, ha.size, fun k hk => ha.block k (by omega) (.inl (by omega))⟩
set_option maxHeartbeats 4000000 in
set_option maxRecDepth 100000 in
theorem lawSpotsOf (wd ht : Int) (s : ByteArray) (hs : s.size ≤ maxLen) (lv fo : Int) (w : World) :
    Calls Try.prog 4 #[.agg #[.int .i64 wd, .int .i64 ht, .string s], .int .i64 lv, .int .i64 fo] w fun e w' => e = .returned (.bool true) ∧ Below w.heap.size w w' := by
  have cZ := hide (fun W => szFrame_any wd ht s 1048576 W hs (by omega) (by omega))
  have cF := hide (fun W => toFrame_any wd ht s W)
  obtain ⟨m, fI, fB, hm, cS, cI⟩ : ∃ (m : Nat) (fI : Nat → Int) (fB : Nat → Bool), m ≤ 8
      ∧ Hid (∀ W : World, Calls Try.prog 9 #[.agg #[.int .i64 wd, .int .i64 ht, .string s], .int .i64 lv, .int .i64 fo] W fun e w' => ∃ a k, e = .returned (.slice a m k) ∧ PRow w' 46 3 W.heap.size w'.heap.size m (.slice a m k) (valVecS fI fB) ∧ Below W.heap.size W w')
      ∧ Hid (∀ W : World, Calls Try.prog 10 #[.agg #[.int .i64 wd, .int .i64 ht, .string s], .int .i64 lv, .int .i64 fo] W fun e w' => ∃ a k, e = .returned (.slice a m k) ∧ PRow w' 46 3 W.heap.size w'.heap.size m (.slice a m k) (valVecS fI fB) ∧ Below W.heap.size W w') := by
    refine ⟨_, vcI (spotsR wd ht s lv fo), fun _ => false, spotsR_len wd ht s lv fo, hide (fun W => (specSpotsOf_any wd ht s lv fo W hs).mono fun e w' h => ?_), hide (fun W => (implSpotsOf_any wd ht s lv fo W hs).mono fun e w' h => ?_)⟩
    · obtain ⟨⟨v, he, ho⟩, hb⟩ := h
      obtain ⟨a, k, rfl⟩ := own_slice ho
      exact ⟨a, k, he, PRow.of ho (flatV_val _ _), hb⟩
    · obtain ⟨⟨v, he, ho⟩, hb⟩ := h
      obtain ⟨a, k, rfl⟩ := own_slice ho
      exact ⟨a, k, he, PRow.of ho (flatV_val _ _), hb⟩
  generalize szI 1048576 s = z1 at *
  have A0 := blk_new w [.int .i64 wd, .int .i64 ht, .string s] 23
  have B0 := below1 w (.cells #[.int .i64 wd, .int .i64 ht, .string s] 23)
  clear hs
  go_enter Try.func4, Try.ntmps4
  go_wp2_with fail
  generalize w.alloc (.cells #[.int .i64 wd, .int .i64 ht, .string s] 23) = W1 at A0 B0 ⊢
  refine (unhide cZ _).mono ?_
  rintro e W2 ⟨rfl, hx⟩
  have A1 := A0.kept hx
  have B1 := below_call B0 hx
  clear hx A0 B0
  by_cases hz : z1 < 0
  · go_wp2_with fail
    go_ret
    exact ⟨rfl, B1⟩
  have a0 := A1.cell 0 _ rfl
  have a1 := A1.cell 1 _ rfl
  have a2 := A1.cell 2 _ rfl
  go_wp2_with fail
  refine (unhide cF _).mono ?_
  rintro e W3 ⟨rfl, hx⟩
  have A2 := hide (A1.kept hx)
  have B2 := hide (below_call B1 hx)
  clear hx A1 B1 a0 a1 a2
  go_wp2_with fail
  refine (unhide cS _).mono ?_
  rintro e W5 ⟨a4, k4, rfl, hp, hx⟩
  have A4 := hide ((unhide A2).kept hx)
  have B4 := hide (below_call (unhide B2) hx)
  have S4 := hide hp
  clear hp hx A2 B2
  have a0 := (unhide A4).cell 0 _ rfl
  have a1 := (unhide A4).cell 1 _ rfl
  have a2 := (unhide A4).cell 2 _ rfl
  go_wp2_with fail
  clear a0 a1 a2
  refine (unhide cF _).mono ?_
  rintro e W6 ⟨rfl, hx⟩
  have A6 := hide ((unhide A4).kept hx)
  have B6 := hide (below_call (unhide B4) hx)
  have S6 := hide ((unhide S4).kept hx)
  have hb6 := hx.size
  clear hx A4 B4 S4
  go_wp2_with fail
  refine (unhide cI _).mono ?_
  rintro e W8 ⟨a7, k7, rfl, hp, hx⟩
  have A8 := hide ((unhide A6).kept hx)
  have B8 := hide (below_call (unhide B6) hx)
  have S8 := hide ((unhide S6).kept hx)
  have G8 := hide hp
  have hb7 := hx.size
  have hbw : w.heap.size < W6.heap.size := (unhide A6).lt
  clear hp hx A6 B6 S6
  generalize W6.heap.size = lo at *
  go_wp2_with fail
  refine (eqVecS_any m _ _ _ _ _ _ fI fB _ (by omega) (unhide G8) (unhide S8)).mono ?_
  rintro e W9 ⟨rfl, hx⟩
  have A9 := hide ((unhide A8).kept hx)
  have B9 := hide (below_call (unhide B8) hx)
  have S9 := hide ((unhide S8).kept hx)
  have G9 := hide ((unhide G8).kept hx)
  have hb9 := hx.size
  clear hx A8 B8 S8 G8
  generalize W8.heap.size = hi at *
  go_wp2_with fail
  refine (markVecS_any m lo hi _ _ _ (by omega) (unhide G9)).mono ?_
  rintro e W11 ⟨rfl, hp, ha⟩
  have G11 := hide hp
  have A11 := hide ((unhide A9).apartV ha (.inl (by omega)))
  have S11 := hide ((unhide S9).apart ha (.inl (by omega)))
  have B11 := hide (belowV (unhide B9) ha (by omega) (by omega))
  clear hp ha A9 B9 S9 G9
  obtain ⟨K, hK⟩ : ∃ K : Int, K = 1 + (m : Int) * 3 := ⟨_, rfl⟩
  have hk0 : ¬ K < 0 := by omega
  have cH : Hid (∀ W : World, PRow W 46 3 lo hi m (.slice a7 m k7) markVecSV → Calls Try.prog 13 #[.slice a7 m k7, .int .i64 1] W fun e w' => e = .returned (.int .i64 K) ∧ w' = W) := hide (fun W h => by rw [hK]; exact heldVecS_any m lo hi _ W (by omega) h)
  rw [← hK]
  clear hK
  go_wp2_with fail
  refine (unhide cH _ (unhide G11)).mono ?_
  rintro e W12 ⟨rfl, rfl⟩
  have a0 := (unhide A11).cell 0 _ rfl
  have a1 := (unhide A11).cell 1 _ rfl
  have a2 := (unhide A11).cell 2 _ rfl
  go_wp2_with fail
  clear a0 a1 a2
  refine (unhide cF _).mono ?_
  rintro e W13 ⟨rfl, hx⟩
  have S13 := hide ((unhide S11).kept hx)
  have G13 := hide ((unhide G11).kept hx)
  have B13 := hide (below_call (unhide B11) hx)
  clear hx A11 S11 G11 B11
  go_wp2_with fail
  refine (unhide cI _).mono ?_
  rintro e W15 ⟨a9, k9, rfl, hp, hx⟩
  have S15 := hide ((unhide S13).kept hx)
  have G15 := hide ((unhide G13).kept hx)
  have B15 := hide (below_call (unhide B13) hx)
  have H15 := hide hp
  clear hp hx S13 G13 B13
  go_wp2_with fail
  refine (eqVecS_any m _ _ _ _ _ _ fI fB _ (by omega) (unhide H15) (unhide S15)).mono ?_
  rintro e W16 ⟨rfl, hx⟩
  have G16 := hide ((unhide G15).kept hx)
  have B16 := hide (below_call (unhide B15) hx)
  clear hx S15 G15 B15 H15
  go_wp2_with fail
  refine (unhide cH _ (unhide G16)).mono ?_
  rintro e W17 ⟨rfl, rfl⟩
  go_wp2_with fail
  go_ret
  exact ⟨rfl, unhide B16⟩
end Go.Proofs.Ytekpoamefepfcaa
