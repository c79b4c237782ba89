/- The law on BlobsOf, walked. -/
import Derived.Test.YteelpcpkgmcmbaaBlJ
namespace Go.Proofs.Yteelpcpkgmcmbaa
open Go.RowKit Go.Sort
set_option linter.unusedVariables false

theorem flatB_kind : ∀ (R : List Bl) (j : Nat), j < R.length * 5 → (j % 5 = 4 → ∃ b, (flatB R)[j]? = some (.bool b)) ∧ (j % 5 ≠ 4 → ∃ z, (flatB R)[j]? = some (.int .i64 z))
  | [], j, h => by simp at h
  | b :: R, j, h => by
    have e : flatB (b :: R) = blobL b ++ flatB R := by unfold flatB; simp
    rw [e]
    by_cases h5 : j < 5
    · have hc : j = 0 ∨ j = 1 ∨ j = 2 ∨ j = 3 ∨ j = 4 := by omega
      rcases hc with rfl | rfl | rfl | rfl | rfl
      · exact ⟨fun h => by omega, fun _ => ⟨_, rfl⟩⟩
      · exact ⟨fun h => by omega, fun _ => ⟨_, rfl⟩⟩
      · exact ⟨fun h => by omega, fun _ => ⟨_, rfl⟩⟩
      · exact ⟨fun h => by omega, fun _ => ⟨_, rfl⟩⟩
      · exact ⟨fun _ => ⟨_, rfl⟩, fun h => by omega⟩
    · have hl : (blobL b).length = 5 := rfl
      rw [List.getElem?_append_right (by omega), hl]
      have ih := flatB_kind R (j - 5) (by simp at h; omega)
      exact ⟨fun h => ih.1 (by omega), fun h => ih.2 (by omega)⟩
def blI (R : List Bl) (j : Nat) : Int := match (flatB R)[j]? with | some (.int _ z) => z | _ => 0
def blB (R : List Bl) (j : Nat) : Bool := match (flatB R)[j]? with | some (.bool b) => b | _ => false
theorem flatB_val (R : List Bl) (j : Nat) (h : j < R.length * 5) : (flatB R)[j]? = some (valBlobS (blI R) (blB R) j) := by
  have hk := flatB_kind R j h
  unfold valBlobS blI blB
  by_cases h4 : j % 5 = 4
  · obtain ⟨b, hb⟩ := hk.1 h4
    rw [if_pos h4, hb]
  · obtain ⟨z, hz⟩ := hk.2 h4
    rw [if_neg h4, hz]
theorem resB_len (wd ht : Int) (s : ByteArray) (lv : Int) : (resB wd ht s lv).length ≤ 8 := by
  unfold resB
  split
  · split
    · assumption
    · simp
  · simp
theorem Blk.apart {w w' : World} {b lo hi : Nat} {cs : List Value} {t : TypeId} (h : Blk w b cs t) (ha : Apart lo hi w w') (hd : b < lo ∨ hi ≤ b) : Blk w' b cs t := (ha.block b h.lt hd).trans h
theorem belowA {B lo hi : Nat} {w w1 w2 : World} (h : Below B w w1) (ha : Apart lo hi w1 w2) (hB : B ≤ lo) (hs : B ≤ w1.heap.size) : Below B w w2 :=
  h.trans ⟨ha.os, ha.tape, ha.output, ha.size, fun k hk => ha.block k (by omega) (.inl (by omega))⟩
set_option maxHeartbeats 4000000 in
set_option maxRecDepth 100000 in
theorem lawBlobsOf (wd ht : Int) (s : ByteArray) (hs : s.size ≤ maxLen) (lv : Int) (w : World) :
    Calls Try.prog 6 #[.agg #[.int .i64 wd, .int .i64 ht, .string s], .int .i64 lv] w fun e w' => e = .returned (.bool true) ∧ Below w.heap.size w w' := by
  have cZ := hide (fun W => szFrame_any wd ht s 1048576 W hs (by omega) (by omega))
  have cF := hide (fun W => toFrame_any wd ht s W)
  obtain ⟨m, code, fI, fB, hm, cS, cI⟩ : ∃ (m : Nat) (code : Int) (fI : Nat → Int) (fB : Nat → Bool), m ≤ 8
      ∧ Hid (∀ W : World, Calls Try.prog 18 #[.agg #[.int .i64 wd, .int .i64 ht, .string s], .int .i64 lv] W fun e w' => ∃ a k, e = .returned (.agg #[.slice a m k, .int .i64 code]) ∧ PRow w' 45 5 W.heap.size w'.heap.size m (.slice a m k) (valBlobS fI fB) ∧ Below W.heap.size W w')
      ∧ Hid (∀ W : World, Calls Try.prog 19 #[.agg #[.int .i64 wd, .int .i64 ht, .string s], .int .i64 lv] W fun e w' => ∃ a k, e = .returned (.agg #[.slice a m k, .int .i64 code]) ∧ PRow w' 45 5 W.heap.size w'.heap.size m (.slice a m k) (valBlobS fI fB) ∧ Below W.heap.size W w') := by
    refine ⟨_, codeB wd ht s lv, blI (resB wd ht s lv), blB (resB wd ht s lv), resB_len wd ht s lv, hide (fun W => (specBlobsOf_any wd ht s lv W hs).mono fun e w' h => ?_), hide (fun W => (implBlobsOf_any wd ht s lv W hs).mono fun e w' h => ?_)⟩
    · obtain ⟨⟨v, he, ho⟩, hb⟩ := h
      obtain ⟨a, k, rfl⟩ := own_slice ho
      exact ⟨a, k, he, PRow.of ho (flatB_val _), hb⟩
    · obtain ⟨⟨v, he, ho⟩, hb⟩ := h
      obtain ⟨a, k, rfl⟩ := own_slice ho
      exact ⟨a, k, he, PRow.of ho (flatB_val _), hb⟩
  generalize szI 1048576 s = z1 at *
  have A0 := blk_new w [.int .i64 wd, .int .i64 ht, .string s] 23
  have B0 := below1 w (.cells #[.int .i64 wd, .int .i64 ht, .string s] 23)
  clear hs
  go_enter Try.func6, Try.ntmps6
  go_wp2_with fail
  generalize w.alloc (.cells #[.int .i64 wd, .int .i64 ht, .string s] 23) = W1 at A0 B0 ⊢
  refine (unhide cZ _).mono ?_
  rintro e W2 ⟨rfl, hx⟩
  have A1 := A0.kept hx
  have B1 := below_call B0 hx
  clear hx A0 B0
  by_cases hz : z1 < 0
  · go_wp2_with fail
    go_ret
    exact ⟨rfl, B1⟩
  have a0 := A1.cell 0 _ rfl
  have a1 := A1.cell 1 _ rfl
  have a2 := A1.cell 2 _ rfl
  go_wp2_with fail
  refine (unhide cF _).mono ?_
  rintro e W3 ⟨rfl, hx⟩
  have A2 := hide (A1.kept hx)
  have B2 := hide (below_call B1 hx)
  clear hx A1 B1 a0 a1 a2
  go_wp2_with fail
  refine (unhide cS _).mono ?_
  rintro e W4 ⟨a4, k4, rfl, hp, hx⟩
  have Z := below1 W4 (.cells #[.slice a4 m k4, .int .i64 code] 37)
  have A4 := hide (((unhide A2).kept hx).kept Z)
  have B4 := hide (below_call (below_call (unhide B2) hx) Z)
  have S4 := hide (hp.kept Z)
  have O4 := hide (blk_new W4 [.slice a4 m k4, .int .i64 code] 37)
  clear hp hx Z A2 B2
  have a0 := (unhide A4).cell 0 _ rfl
  have a1 := (unhide A4).cell 1 _ rfl
  have a2 := (unhide A4).cell 2 _ rfl
  go_wp2_with fail
  generalize W4.alloc (.cells #[.slice a4 m k4, .int .i64 code] 37) = W5 at A4 B4 S4 O4 a0 a1 a2 ⊢
  have hb4 : W4.heap.size < W5.heap.size := (unhide O4).lt
  generalize W4.heap.size = b4 at *
  clear a0 a1 a2
  refine (unhide cF _).mono ?_
  rintro e W6 ⟨rfl, hx⟩
  have A6 := hide ((unhide A4).kept hx)
  have B6 := hide (below_call (unhide B4) hx)
  have S6 := hide ((unhide S4).kept hx)
  have O6 := hide ((unhide O4).kept hx)
  have hb6 := hx.size
  clear hx A4 B4 S4 O4
  go_wp2_with fail
  refine (unhide cI _).mono ?_
  rintro e W7 ⟨a7, k7, rfl, hp, hx⟩
  have Z := below1 W7 (.cells #[.slice a7 m k7, .int .i64 code] 37)
  have A8 := hide (((unhide A6).kept hx).kept Z)
  have B8 := hide (below_call (below_call (unhide B6) hx) Z)
  have S8 := hide (((unhide S6).kept hx).kept Z)
  have O8 := hide (((unhide O6).kept hx).kept Z)
  have G8 := hide (hp.kept Z)
  have Q8 := hide (blk_new W7 [.slice a7 m k7, .int .i64 code] 37)
  have hb7 := hx.size
  have hbw : w.heap.size < W6.heap.size := (unhide A6).lt
  clear hp hx Z A6 B6 S6 O6
  generalize W6.heap.size = lo at *
  have p0 := (unhide O8).cell 0 _ rfl
  have p1 := (unhide O8).cell 1 _ rfl
  have q0 := (unhide Q8).cell 0 _ rfl
  have q1 := (unhide Q8).cell 1 _ rfl
  go_wp2_with fail
  generalize W7.alloc (.cells #[.slice a7 m k7, .int .i64 code] 37) = W8 at A8 B8 S8 O8 G8 Q8 p0 p1 q0 q1 ⊢
  have hb8 : W7.heap.size < W8.heap.size := (unhide Q8).lt
  generalize W7.heap.size = hi at *
  clear p0 p1 q0 q1
  refine (eqBlobsOut_any m _ _ _ _ _ _ code fI fB _ (by omega) (unhide G8) (unhide S8)).mono ?_
  rintro e W9 ⟨rfl, hx⟩
  have A9 := hide ((unhide A8).kept hx)
  have B9 := hide (below_call (unhide B8) hx)
  have S9 := hide ((unhide S8).kept hx)
  have O9 := hide ((unhide O8).kept hx)
  have G9 := hide ((unhide G8).kept hx)
  have Q9 := hide ((unhide Q8).kept hx)
  have hb9 := hx.size
  clear hx A8 B8 S8 O8 G8 Q8
  have q0 := (unhide Q9).cell 0 _ rfl
  have q1 := (unhide Q9).cell 1 _ rfl
  go_wp2_with fail
  clear q0 q1
  refine (markBlobsOut_any m lo hi _ code _ _ (by omega) (by omega) (unhide G9)).mono ?_
  rintro e W11 ⟨rfl, hp, W10, hx, ha⟩
  have G11 := hide hp
  have A11 := hide (((unhide A9).kept hx).apart ha (.inl (by omega)))
  have O11 := hide (((unhide O9).kept hx).apart ha (.inl (by omega)))
  have Q11 := hide (((unhide Q9).kept hx).apart ha (.inr (Nat.le_refl _)))
  have S11 := hide (((unhide S9).kept hx).apart ha (.inl (by omega)))
  have B11 := hide (belowA (below_call (unhide B9) hx) ha (by omega) (by have := hx.size; omega))
  clear hp hx ha A9 B9 S9 O9 G9 Q9
  obtain ⟨K, hK⟩ : ∃ K : Int, K = 1 + (m : Int) * 5 := ⟨_, rfl⟩
  have hk0 : ¬ K < 0 := by omega
  have cH : Hid (∀ W : World, PRow W 45 5 lo hi m (.slice a7 m k7) markBlobSV → Calls Try.prog 22 #[.agg #[.slice a7 m k7, .int .i64 code], .int .i64 1] W fun e w' => e = .returned (.int .i64 K) ∧ Below W.heap.size W w') := hide (fun W h => by rw [hK]; exact heldBlobsOut_any m lo hi _ code W (by omega) h)
  rw [← hK]
  clear hK
  have q0 := (unhide Q11).cell 0 _ rfl
  have q1 := (unhide Q11).cell 1 _ rfl
  go_wp2_with fail
  clear q0 q1
  refine (unhide cH _ (unhide G11)).mono ?_
  rintro e W12 ⟨rfl, hx⟩
  have A12 := hide ((unhide A11).kept hx)
  have O12 := hide ((unhide O11).kept hx)
  have Q12 := hide ((unhide Q11).kept hx)
  have S12 := hide ((unhide S11).kept hx)
  have G12 := hide ((unhide G11).kept hx)
  have B12 := hide (below_call (unhide B11) hx)
  clear hx A11 O11 Q11 S11 G11 B11
  have a0 := (unhide A12).cell 0 _ rfl
  have a1 := (unhide A12).cell 1 _ rfl
  have a2 := (unhide A12).cell 2 _ rfl
  go_wp2_with fail
  clear a0 a1 a2
  refine (unhide cF _).mono ?_
  rintro e W13 ⟨rfl, hx⟩
  have O13 := hide ((unhide O12).kept hx)
  have Q13 := hide ((unhide Q12).kept hx)
  have S13 := hide ((unhide S12).kept hx)
  have G13 := hide ((unhide G12).kept hx)
  have B13 := hide (below_call (unhide B12) hx)
  clear hx A12 O12 Q12 S12 G12 B12
  go_wp2_with fail
  refine (unhide cI _).mono ?_
  rintro e W14 ⟨a9, k9, rfl, hp, hx⟩
  have Z := below1 W14 (.cells #[.slice a9 m k9, .int .i64 code] 37)
  have O15 := hide (((unhide O13).kept hx).kept Z)
  have Q15 := hide (((unhide Q13).kept hx).kept Z)
  have S15 := hide (((unhide S13).kept hx).kept Z)
  have G15 := hide (((unhide G13).kept hx).kept Z)
  have B15 := hide (below_call (below_call (unhide B13) hx) Z)
  have H15 := hide (hp.kept Z)
  have N15 := hide (blk_new W14 [.slice a9 m k9, .int .i64 code] 37)
  clear hp hx Z O13 Q13 S13 G13 B13
  have p0 := (unhide O15).cell 0 _ rfl
  have p1 := (unhide O15).cell 1 _ rfl
  have q0 := (unhide N15).cell 0 _ rfl
  have q1 := (unhide N15).cell 1 _ rfl
  go_wp2_with fail
  generalize W14.alloc (.cells #[.slice a9 m k9, .int .i64 code] 37) = W15 at O15 Q15 S15 G15 B15 H15 N15 p0 p1 q0 q1 ⊢
  clear p0 p1 q0 q1
  refine (eqBlobsOut_any m _ _ _ _ _ _ code fI fB _ (by omega) (unhide H15) (unhide S15)).mono ?_
  rintro e W16 ⟨rfl, hx⟩
  have Q16 := hide ((unhide Q15).kept hx)
  have G16 := hide ((unhide G15).kept hx)
  have B16 := hide (below_call (unhide B15) hx)
  clear hx O15 Q15 S15 G15 B15 H15 N15
  have q0 := (unhide Q16).cell 0 _ rfl
  have q1 := (unhide Q16).cell 1 _ rfl
  go_wp2_with fail
  clear q0 q1
  refine (unhide cH _ (unhide G16)).mono ?_
  rintro e W17 ⟨rfl, hx⟩
  have B17 := hide (below_call (unhide B16) hx)
  clear hx
  go_wp2_with fail
  go_ret
  exact ⟨rfl, unhide B17⟩
end Go.Proofs.Yteelpcpkgmcmbaa
