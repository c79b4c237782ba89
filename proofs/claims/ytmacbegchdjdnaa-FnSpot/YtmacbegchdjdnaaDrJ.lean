/- What the law on spots draws: a frame, a level, a length. -/
import Derived.Test.YtmacbegchdjdnaaDrI
namespace Go.Proofs.Ytmacbegchdjdnaa
open Go.RowKit Go.Sort
set_option linter.unusedVariables false
set_option linter.unusedSimpArgs false

/-- a number of a literal list of numbers -/
def litZ (cs : List Value) (i : Nat) : Int := match cs[i]? with | some (.int _ z) => z | _ => 0
theorem lit_cellZ {w : World} {b k : Nat} {cs : List Value} {t : TypeId} {z : Int} (h : Blk w b cs t) (hall : ∀ v ∈ cs, ∃ z : Int, v = .int .i64 z) (hk : k < cs.length) (hz : litZ cs k = z) : w.cell? ⟨b, k, none⟩ = some (.int .i64 z) := by
  obtain ⟨y, hy⟩ := hall cs[k] (List.getElem_mem hk)
  have e : cs[k]? = some (.int .i64 y) := by rw [List.getElem?_eq_getElem hk, hy]
  have : litZ cs k = y := by unfold litZ; rw [e]
  rw [← hz, this]
  exact h.cell k _ e
/-- what is held behind every operation may grow on the way -/
theorem wpAnyH_mono {P : Program} {ops : Array Oper} {Q : Exit → Act → World → Prop} {md : Region.Mode} {S S' : World → Prop} (h : ∀ w, S' w → S w) : ∀ (fuel : Nat) (listed : Array Bool) (a : Act) (w : World), wpAnyH P md ops Q S' fuel listed a w → wpAnyH P md ops Q S fuel listed a w
  | 0, _, _, _, H => H
  | fuel + 1, _, _, _, H => ⟨H.1, fun i hi => wpOp_mono (fun a' w' h' => ⟨h w' h'.1, wpAnyH_mono h fuel _ a' w' h'.2⟩) (H.2 i hi)⟩
theorem wpAnyH_more {P : Program} {ops : Array Oper} {Q : Exit → Act → World → Prop} {md : Region.Mode} {S S' : World → Prop} {fuel : Nat} {listed : Array Bool} {a : Act} {w : World} (h : ∀ w, S' w → S w) (hS : S' w) (H : S' w → wpAnyH P md ops Q S' fuel listed a w) : wpAnyH P md ops Q S fuel listed a w := wpAnyH_mono h fuel listed a w (H hS)
set_option maxHeartbeats 8000000 in
set_option maxRecDepth 100000 in
theorem drawSpotsOf_any (a : Option Addr) (len cap : Nat) (w : World) (hl : len ≤ 1048576) (hR : Row w a len w.heap.size) :
    Calls Try.prog 19 #[.slice a len cap] w fun e w' => (∃ (wd ht : Int) (s : ByteArray) (lv fo : Int), s.size ≤ 200 ∧ e = .returned (.tuple #[.agg #[.int .i64 wd, .int .i64 ht, .string s], .int .i64 lv, .int .i64 fo])) ∧ Below w.heap.size w w' := by
  have B0 := below1 w (.cells #[.int .i64 0, .int .i64 0, .string ⟨#[]⟩] 24)
  have R0 := blk_new w [.int .i64 0, .int .i64 0, .string ⟨#[]⟩] 24
  go_enter Try.func19, Try.ntmps19
  go_wp2_with fail
  generalize w.alloc (.cells #[.int .i64 0, .int .i64 0, .string ⟨#[]⟩] 24) = W0 at B0 R0 ⊢
  refine (source_any a len cap _ hl (hR.belowF B0)).mono ?_
  rintro e W1 ⟨rfl, hS1, hx⟩
  have H1 := hide (dw_start B0 [(w.heap.size, [.int .i64 0, .int .i64 0, .string ⟨#[]⟩], 24)] (fun k x e => by
    match k, e with
    | 0, e => cases e; exact ⟨R0, Nat.le_refl _⟩) hS1 hx)
  have hsb : w.heap.size < W0.heap.size := R0.lt
  generalize W0.heap.size = sb at *
  clear hx B0 R0 hS1
  go_wp2_with fail
  refine (l05Frame_any sb _ (unhide H1).src).mono ?_
  rintro e W2 ⟨wd, ht, s, rfl, hs, hS2, hg2⟩
  have H2 := hide (((unhide H1).call hS2 hg2).alloc [.int .i64 wd, .int .i64 ht, .string s] 24)
  have hlt2 := hS2.lt
  clear H1 hS2 hg2
  go_wp2_with fail
  generalize W2.alloc (.cells #[.int .i64 wd, .int .i64 ht, .string s] 24) = W3 at H2 ⊢
  generalize W2.heap.size = fb at *
  have f0 := ((unhide H2).at' 0 _ rfl).cell 0 _ rfl
  have f1 := ((unhide H2).at' 0 _ rfl).cell 1 _ rfl
  have f2 := ((unhide H2).at' 0 _ rfl).cell 2 _ rfl
  go_wp2_with fail
  refine wp_region_held_drew (S := (fun w' => w'.cell? ⟨fb, 0, none⟩ = some (.int .i64 wd) ∧ w'.cell? ⟨fb, 1, none⟩ = some (.int .i64 ht) ∧ w'.cell? ⟨fb, 2, none⟩ = some (.string s))) (by kernel_rfl) ⟨f0, f1, f2⟩ (fun hHeld => ?_)
  have Q0 := hide (unhide H2).drewn
  generalize W3.drew = V0 at Q0 hHeld ⊢
  clear H2 f0 f1 f2
  refine wpAnyH_take (i := 0) (v := ?_) rfl (by kernel_rfl) (by kernel_rfl) (by kernel_rfl) (fun _ _ _ h => h) (Or.inl ⟨by rfl, ?_⟩) (by assumption) ?_
  rotate_left
  · intro W0 hSw; (try dsimp only at hSw); go_simp <;> with_reducible rfl
  try simp only [Act.put, List.setIfInBounds_toArray, List.set_cons_zero, List.set_cons_succ]
  refine wpAnyH_take (i := 2) (v := ?_) rfl (by kernel_rfl) (by kernel_rfl) (by kernel_rfl) (fun _ _ _ h => h) (Or.inl ⟨by rfl, ?_⟩) (by assumption) ?_
  rotate_left
  · intro W0 hSw; (try dsimp only at hSw); go_simp <;> with_reducible rfl
  try simp only [Act.put, List.setIfInBounds_toArray, List.set_cons_zero, List.set_cons_succ]
  refine wpAnyH_take (i := 7) (v := ?_) rfl (by kernel_rfl) (by kernel_rfl) (by kernel_rfl) (fun _ _ _ h => h) (Or.inl ⟨by rfl, ?_⟩) (by assumption) ?_
  rotate_left
  · intro W0 hSw; (try dsimp only at hSw); go_simp <;> with_reducible rfl
  try simp only [Act.put, List.setIfInBounds_toArray, List.set_cons_zero, List.set_cons_succ]
  refine wpAnyH_ready (rs := [1, 3, 6]) (by kernel_rfl) (by simp) ?_
  refine (AllReadyH.cons rfl (fun K hK => ?_) (AllReadyH.cons rfl (fun K hK => ?_) (AllReadyH.cons rfl (fun K hK => ?_) AllReadyH.nil)))
  · go_simp
    have Q1 := hide ((unhide Q0).alloc [.int .i64 10, .int .i64 10, .int .i64 40, .int .i64 256] 2)
    have hlw1 := ((unhide Q0).at' 0 _ rfl).lt
    generalize V0.alloc (.cells #[.int .i64 10, .int .i64 10, .int .i64 40, .int .i64 256] 2) = v1 at Q1 ⊢
    generalize V0.heap.size = lb1 at *
    refine hK.out _ _ ?_ (fun hHeld1 => ?_)
    · exact ⟨((unhide Q1).at' 1 _ rfl).cell 0 _ rfl, ((unhide Q1).at' 1 _ rfl).cell 1 _ rfl, ((unhide Q1).at' 1 _ rfl).cell 2 _ rfl⟩
    clear hK K
    refine wpAnyH_ready (rs := [3, 6]) (by kernel_rfl) (by simp) ?_
    refine (AllReadyH.cons rfl (fun K hK => ?_) (AllReadyH.cons rfl (fun K hK => ?_) AllReadyH.nil))
    · go_simp
      refine (n_any sb 4 _ (unhide Q1).src (by omega)).mono ?_
      rintro e w2 ⟨k2, rfl, hk2a, hk2b, _, hS2, hg2⟩
      have Q2 := hide ((unhide Q1).call hS2 hg2)
      clear hS2 hg2
      obtain ⟨i2, hi2⟩ := Int.eq_ofNat_of_zero_le hk2a
      have hk2c := hk2b (by omega)
      subst hi2
      have hi2n : i2 < 4 := by omega
      have hi2m : (i2 : Int) < 4 := by omega
      refine hK.out _ _ ?_ (fun hHeld2 => ?_)
      · exact ⟨((unhide Q2).at' 1 _ rfl).cell 0 _ rfl, ((unhide Q2).at' 1 _ rfl).cell 1 _ rfl, ((unhide Q2).at' 1 _ rfl).cell 2 _ rfl⟩
      clear hK K
      obtain ⟨za, hza⟩ : ∃ z, litZ [.int .i64 10, .int .i64 10, .int .i64 40, .int .i64 256] i2 = z := ⟨_, rfl⟩
      refine wpAnyH_more (S' := (fun w' => w'.cell? ⟨lb1, i2, none⟩ = some (.int .i64 za) ∧ w'.cell? ⟨fb, 0, none⟩ = some (.int .i64 wd) ∧ w'.cell? ⟨fb, 1, none⟩ = some (.int .i64 ht) ∧ w'.cell? ⟨fb, 2, none⟩ = some (.string s))) (fun _ h => h.2) ⟨lit_cellZ ((unhide Q2).at' 0 _ rfl) (by simp) hi2n hza, ((unhide Q2).at' 1 _ rfl).cell 0 _ rfl, ((unhide Q2).at' 1 _ rfl).cell 1 _ rfl, ((unhide Q2).at' 1 _ rfl).cell 2 _ rfl⟩ (fun hMore2 => ?_)
      refine wpAnyH_take (i := 4) (v := ?_) rfl (by kernel_rfl) (by kernel_rfl) (by kernel_rfl) (fun _ _ _ h => h) (Or.inl ⟨by rfl, ?_⟩) (by assumption) ?_
      rotate_left
      · intro W0 hSw; (try dsimp only at hSw); go_simp <;> with_reducible rfl
      try simp only [Act.put, List.setIfInBounds_toArray, List.set_cons_zero, List.set_cons_succ]
      refine wpAnyH_take (i := 5) (v := ?_) rfl (by kernel_rfl) (by kernel_rfl) (by kernel_rfl) (fun _ _ _ h => h) (Or.inl ⟨by rfl, ?_⟩) (by assumption) ?_
      rotate_left
      · intro W0 hSw; (try dsimp only at hSw); go_simp <;> with_reducible rfl
      try simp only [Act.put, List.setIfInBounds_toArray, List.set_cons_zero, List.set_cons_succ]
      refine wpAnyH_ready (rs := [6, 8]) (by kernel_rfl) (by simp) ?_
      refine (AllReadyH.cons rfl (fun K hK => ?_) (AllReadyH.cons rfl (fun K hK => ?_) AllReadyH.nil))
      · go_simp
        have Q3 := hide ((unhide Q2).alloc [.int .i64 8, .int .i64 20, .int .i64 8, .int .i64 0] 2)
        have hlw3 := ((unhide Q2).at' 1 _ rfl).lt
        have hls3 := ((unhide Q2).at' 0 _ rfl).lt
        generalize w2.alloc (.cells #[.int .i64 8, .int .i64 20, .int .i64 8, .int .i64 0] 2) = v3 at Q3 ⊢
        generalize w2.heap.size = lb3 at *
        refine hK.out _ _ ?_ (fun hHeld3 => ?_)
        · exact ⟨lit_cellZ ((unhide Q3).at' 1 _ rfl) (by simp) hi2n hza, ((unhide Q3).at' 2 _ rfl).cell 0 _ rfl, ((unhide Q3).at' 2 _ rfl).cell 1 _ rfl, ((unhide Q3).at' 2 _ rfl).cell 2 _ rfl⟩
        clear hK K
        refine wpAnyH_ready (rs := [8]) (by kernel_rfl) (by simp) ?_
        refine (AllReadyH.cons rfl (fun K hK => ?_) AllReadyH.nil)
        go_simp
        refine (n_any sb 4 _ (unhide Q3).src (by omega)).mono ?_
        rintro e w4 ⟨k4, rfl, hk4a, hk4b, _, hS4, hg4⟩
        have Q4 := hide ((unhide Q3).call hS4 hg4)
        clear hS4 hg4
        obtain ⟨i4, hi4⟩ := Int.eq_ofNat_of_zero_le hk4a
        have hk4c := hk4b (by omega)
        subst hi4
        have hi4n : i4 < 4 := by omega
        have hi4m : (i4 : Int) < 4 := by omega
        refine hK.out _ _ ?_ (fun hHeld4 => ?_)
        · exact ⟨lit_cellZ ((unhide Q4).at' 1 _ rfl) (by simp) hi2n hza, ((unhide Q4).at' 2 _ rfl).cell 0 _ rfl, ((unhide Q4).at' 2 _ rfl).cell 1 _ rfl, ((unhide Q4).at' 2 _ rfl).cell 2 _ rfl⟩
        clear hK K
        obtain ⟨zb, hzb⟩ : ∃ z, litZ [.int .i64 8, .int .i64 20, .int .i64 8, .int .i64 0] i4 = z := ⟨_, rfl⟩
        refine wpAnyH_more (S' := (fun w' => w'.cell? ⟨lb3, i4, none⟩ = some (.int .i64 zb) ∧ w'.cell? ⟨lb1, i2, none⟩ = some (.int .i64 za) ∧ w'.cell? ⟨fb, 0, none⟩ = some (.int .i64 wd) ∧ w'.cell? ⟨fb, 1, none⟩ = some (.int .i64 ht) ∧ w'.cell? ⟨fb, 2, none⟩ = some (.string s))) (fun _ h => h.2) ⟨lit_cellZ ((unhide Q4).at' 0 _ rfl) (by simp) hi4n hzb, lit_cellZ ((unhide Q4).at' 1 _ rfl) (by simp) hi2n hza, ((unhide Q4).at' 2 _ rfl).cell 0 _ rfl, ((unhide Q4).at' 2 _ rfl).cell 1 _ rfl, ((unhide Q4).at' 2 _ rfl).cell 2 _ rfl⟩ (fun hMore4 => ?_)
        refine wpAnyH_take (i := 9) (v := ?_) rfl (by kernel_rfl) (by kernel_rfl) (by kernel_rfl) (fun _ _ _ h => h) (Or.inl ⟨by rfl, ?_⟩) (by assumption) ?_
        rotate_left
        · intro W0 hSw; (try dsimp only at hSw); go_simp <;> with_reducible rfl
        try simp only [Act.put, List.setIfInBounds_toArray, List.set_cons_zero, List.set_cons_succ]
        refine wpAnyH_take (i := 10) (v := ?_) rfl (by kernel_rfl) (by kernel_rfl) (by kernel_rfl) (fun _ _ _ h => h) (Or.inl ⟨by rfl, ?_⟩) (by assumption) ?_
        rotate_left
        · intro W0 hSw; (try dsimp only at hSw); go_simp <;> with_reducible rfl
        try simp only [Act.put, List.setIfInBounds_toArray, List.set_cons_zero, List.set_cons_succ]
        refine wpAnyH_ready (rs := [11]) (by kernel_rfl) (by simp) ?_
        refine (AllReadyH.cons rfl (fun K hK => ?_) AllReadyH.nil)
        have r5_0 := ((unhide Q4).at' 3 _ rfl).cell 0 _ rfl
        have r5_1 := ((unhide Q4).at' 3 _ rfl).cell 1 _ rfl
        have r5_2 := ((unhide Q4).at' 3 _ rfl).cell 2 _ rfl
        have x5_0 := ((unhide Q4).at' 3 _ rfl).free 0
        have x5_1 := ((unhide Q4).at' 3 _ rfl).free 1
        have x5_2 := ((unhide Q4).at' 3 _ rfl).free 2
        have hne5 : ∀ x ∈ ([(lb3, [.int .i64 8, .int .i64 20, .int .i64 8, .int .i64 0], 2), (lb1, [.int .i64 10, .int .i64 10, .int .i64 40, .int .i64 256], 2), (fb, [.int .i64 wd, .int .i64 ht, .string s], 24)] : List (Nat × List Value × TypeId)), x.1 ≠ w.heap.size := by simp; omega
        have Q5 := hide (((((unhide Q4).db.pick (bs' := (w.heap.size, [.int .i64 0, .int .i64 0, .string ⟨#[]⟩], 24) :: [(lb3, [.int .i64 8, .int .i64 20, .int .i64 8, .int .i64 0], 2), (lb1, [.int .i64 10, .int .i64 10, .int .i64 40, .int .i64 256], 2), (fb, [.int .i64 wd, .int .i64 ht, .string s], 24)]) (by intro x hx; simp only [List.mem_cons, List.not_mem_nil, or_false] at hx; rcases hx with rfl | rfl | rfl | rfl <;> simp)).set hne5 0 (.int .i64 wd)).set hne5 1 (.int .i64 ht)).set hne5 2 (.string s))
        go_simp
        clear r5_0 x5_0 r5_1 x5_1 r5_2 x5_2
        generalize (((w4.setCell ⟨w.heap.size, 0, none⟩ (.int .i64 wd)).setCell ⟨w.heap.size, 1, none⟩ (.int .i64 ht)).setCell ⟨w.heap.size, 2, none⟩ (.string s)) = u5 at Q5 ⊢
        refine hK.out _ _ ?_ (fun hHeld5 => ?_)
        · exact ⟨lit_cellZ ((unhide Q5).at' 1 _ rfl) (by simp) hi4n hzb, lit_cellZ ((unhide Q5).at' 2 _ rfl) (by simp) hi2n hza, ((unhide Q5).at' 3 _ rfl).cell 0 _ rfl, ((unhide Q5).at' 3 _ rfl).cell 1 _ rfl, ((unhide Q5).at' 3 _ rfl).cell 2 _ rfl⟩
        clear hK K
        refine wpAnyH_take (i := 12) (v := ?_) rfl (by kernel_rfl) (by kernel_rfl) (by kernel_rfl) (fun _ _ _ h => h) (Or.inl ⟨by rfl, ?_⟩) (by assumption) ?_
        rotate_left
        · intro W0 hSw; (try dsimp only at hSw); go_simp <;> with_reducible rfl
        try simp only [Act.put, List.setIfInBounds_toArray, List.set_cons_zero, List.set_cons_succ]
        refine wpAnyH_take (i := 13) (v := ?_) rfl (by kernel_rfl) (by kernel_rfl) (by kernel_rfl) (fun _ _ _ h => h) (Or.inl ⟨by rfl, ?_⟩) (by assumption) ?_
        rotate_left
        · intro W0 hSw; (try dsimp only at hSw); go_simp <;> with_reducible rfl
        try simp only [Act.put, List.setIfInBounds_toArray, List.set_cons_zero, List.set_cons_succ]
        refine wpAnyH_done (by kernel_rfl) ?_ _
        have y0_0 := ((unhide Q5).at' 0 _ rfl).cell 0 _ rfl
        have y0_1 := ((unhide Q5).at' 0 _ rfl).cell 1 _ rfl
        have y0_2 := ((unhide Q5).at' 0 _ rfl).cell 2 _ rfl
        go_wp2_with fail
        exact bodyPost_ret (v := .tuple #[.agg #[.int .i64 wd, .int .i64 ht, .string s], .int .i64 za, .int .i64 zb]) (by simp [results, Try.results19, go_sem, y0_0, y0_1, y0_2]) rfl ⟨⟨_, _, _, hs, _, _, rfl⟩, (unhide Q5).bel⟩
      · go_simp
        refine (n_any sb 4 _ (unhide Q2).src (by omega)).mono ?_
        rintro e w6 ⟨k6, rfl, hk6a, hk6b, _, hS6, hg6⟩
        have Q6 := hide ((unhide Q2).call hS6 hg6)
        clear hS6 hg6
        obtain ⟨i6, hi6⟩ := Int.eq_ofNat_of_zero_le hk6a
        have hk6c := hk6b (by omega)
        subst hi6
        have hi6n : i6 < 4 := by omega
        have hi6m : (i6 : Int) < 4 := by omega
        refine hK.out _ _ ?_ (fun hHeld6 => ?_)
        · exact ⟨lit_cellZ ((unhide Q6).at' 0 _ rfl) (by simp) hi2n hza, ((unhide Q6).at' 1 _ rfl).cell 0 _ rfl, ((unhide Q6).at' 1 _ rfl).cell 1 _ rfl, ((unhide Q6).at' 1 _ rfl).cell 2 _ rfl⟩
        clear hK K
        refine wpAnyH_ready (rs := [6, 11]) (by kernel_rfl) (by simp) ?_
        refine (AllReadyH.cons rfl (fun K hK => ?_) (AllReadyH.cons rfl (fun K hK => ?_) AllReadyH.nil))
        · go_simp
          have Q7 := hide ((unhide Q6).alloc [.int .i64 8, .int .i64 20, .int .i64 8, .int .i64 0] 2)
          have hlw7 := ((unhide Q6).at' 1 _ rfl).lt
          have hls7 := ((unhide Q6).at' 0 _ rfl).lt
          generalize w6.alloc (.cells #[.int .i64 8, .int .i64 20, .int .i64 8, .int .i64 0] 2) = v7 at Q7 ⊢
          generalize w6.heap.size = lb7 at *
          refine hK.out _ _ ?_ (fun hHeld7 => ?_)
          · exact ⟨lit_cellZ ((unhide Q7).at' 1 _ rfl) (by simp) hi2n hza, ((unhide Q7).at' 2 _ rfl).cell 0 _ rfl, ((unhide Q7).at' 2 _ rfl).cell 1 _ rfl, ((unhide Q7).at' 2 _ rfl).cell 2 _ rfl⟩
          clear hK K
          obtain ⟨zb, hzb⟩ : ∃ z, litZ [.int .i64 8, .int .i64 20, .int .i64 8, .int .i64 0] i6 = z := ⟨_, rfl⟩
          refine wpAnyH_more (S' := (fun w' => w'.cell? ⟨lb7, i6, none⟩ = some (.int .i64 zb) ∧ w'.cell? ⟨lb1, i2, none⟩ = some (.int .i64 za) ∧ w'.cell? ⟨fb, 0, none⟩ = some (.int .i64 wd) ∧ w'.cell? ⟨fb, 1, none⟩ = some (.int .i64 ht) ∧ w'.cell? ⟨fb, 2, none⟩ = some (.string s))) (fun _ h => h.2) ⟨lit_cellZ ((unhide Q7).at' 0 _ rfl) (by simp) hi6n hzb, lit_cellZ ((unhide Q7).at' 1 _ rfl) (by simp) hi2n hza, ((unhide Q7).at' 2 _ rfl).cell 0 _ rfl, ((unhide Q7).at' 2 _ rfl).cell 1 _ rfl, ((unhide Q7).at' 2 _ rfl).cell 2 _ rfl⟩ (fun hMore7 => ?_)
          refine wpAnyH_take (i := 9) (v := ?_) rfl (by kernel_rfl) (by kernel_rfl) (by kernel_rfl) (fun _ _ _ h => h) (Or.inl ⟨by rfl, ?_⟩) (by assumption) ?_
          rotate_left
          · intro W0 hSw; (try dsimp only at hSw); go_simp <;> with_reducible rfl
          try simp only [Act.put, List.setIfInBounds_toArray, List.set_cons_zero, List.set_cons_succ]
          refine wpAnyH_take (i := 10) (v := ?_) rfl (by kernel_rfl) (by kernel_rfl) (by kernel_rfl) (fun _ _ _ h => h) (Or.inl ⟨by rfl, ?_⟩) (by assumption) ?_
          rotate_left
          · intro W0 hSw; (try dsimp only at hSw); go_simp <;> with_reducible rfl
          try simp only [Act.put, List.setIfInBounds_toArray, List.set_cons_zero, List.set_cons_succ]
          refine wpAnyH_ready (rs := [11]) (by kernel_rfl) (by simp) ?_
          refine (AllReadyH.cons rfl (fun K hK => ?_) AllReadyH.nil)
          have r8_0 := ((unhide Q7).at' 3 _ rfl).cell 0 _ rfl
          have r8_1 := ((unhide Q7).at' 3 _ rfl).cell 1 _ rfl
          have r8_2 := ((unhide Q7).at' 3 _ rfl).cell 2 _ rfl
          have x8_0 := ((unhide Q7).at' 3 _ rfl).free 0
          have x8_1 := ((unhide Q7).at' 3 _ rfl).free 1
          have x8_2 := ((unhide Q7).at' 3 _ rfl).free 2
          have hne8 : ∀ x ∈ ([(lb7, [.int .i64 8, .int .i64 20, .int .i64 8, .int .i64 0], 2), (lb1, [.int .i64 10, .int .i64 10, .int .i64 40, .int .i64 256], 2), (fb, [.int .i64 wd, .int .i64 ht, .string s], 24)] : List (Nat × List Value × TypeId)), x.1 ≠ w.heap.size := by simp; omega
          have Q8 := hide (((((unhide Q7).db.pick (bs' := (w.heap.size, [.int .i64 0, .int .i64 0, .string ⟨#[]⟩], 24) :: [(lb7, [.int .i64 8, .int .i64 20, .int .i64 8, .int .i64 0], 2), (lb1, [.int .i64 10, .int .i64 10, .int .i64 40, .int .i64 256], 2), (fb, [.int .i64 wd, .int .i64 ht, .string s], 24)]) (by intro x hx; simp only [List.mem_cons, List.not_mem_nil, or_false] at hx; rcases hx with rfl | rfl | rfl | rfl <;> simp)).set hne8 0 (.int .i64 wd)).set hne8 1 (.int .i64 ht)).set hne8 2 (.string s))
          go_simp
          clear r8_0 x8_0 r8_1 x8_1 r8_2 x8_2
          generalize (((v7.setCell ⟨w.heap.size, 0, none⟩ (.int .i64 wd)).setCell ⟨w.heap.size, 1, none⟩ (.int .i64 ht)).setCell ⟨w.heap.size, 2, none⟩ (.string s)) = u8 at Q8 ⊢
          refine hK.out _ _ ?_ (fun hHeld8 => ?_)
          · exact ⟨lit_cellZ ((unhide Q8).at' 1 _ rfl) (by simp) hi6n hzb, lit_cellZ ((unhide Q8).at' 2 _ rfl) (by simp) hi2n hza, ((unhide Q8).at' 3 _ rfl).cell 0 _ rfl, ((unhide Q8).at' 3 _ rfl).cell 1 _ rfl, ((unhide Q8).at' 3 _ rfl).cell 2 _ rfl⟩
          clear hK K
          refine wpAnyH_take (i := 12) (v := ?_) rfl (by kernel_rfl) (by kernel_rfl) (by kernel_rfl) (fun _ _ _ h => h) (Or.inl ⟨by rfl, ?_⟩) (by assumption) ?_
          rotate_left
          · intro W0 hSw; (try dsimp only at hSw); go_simp <;> with_reducible rfl
          try simp only [Act.put, List.setIfInBounds_toArray, List.set_cons_zero, List.set_cons_succ]
          refine wpAnyH_take (i := 13) (v := ?_) rfl (by kernel_rfl) (by kernel_rfl) (by kernel_rfl) (fun _ _ _ h => h) (Or.inl ⟨by rfl, ?_⟩) (by assumption) ?_
          rotate_left
          · intro W0 hSw; (try dsimp only at hSw); go_simp <;> with_reducible rfl
          try simp only [Act.put, List.setIfInBounds_toArray, List.set_cons_zero, List.set_cons_succ]
          refine wpAnyH_done (by kernel_rfl) ?_ _
          have y0_0 := ((unhide Q8).at' 0 _ rfl).cell 0 _ rfl
          have y0_1 := ((unhide Q8).at' 0 _ rfl).cell 1 _ rfl
          have y0_2 := ((unhide Q8).at' 0 _ rfl).cell 2 _ rfl
          go_wp2_with fail
          exact bodyPost_ret (v := .tuple #[.agg #[.int .i64 wd, .int .i64 ht, .string s], .int .i64 za, .int .i64 zb]) (by simp [results, Try.results19, go_sem, y0_0, y0_1, y0_2]) rfl ⟨⟨_, _, _, hs, _, _, rfl⟩, (unhide Q8).bel⟩
        · have r9_0 := ((unhide Q6).at' 2 _ rfl).cell 0 _ rfl
          have r9_1 := ((unhide Q6).at' 2 _ rfl).cell 1 _ rfl
          have r9_2 := ((unhide Q6).at' 2 _ rfl).cell 2 _ rfl
          have x9_0 := ((unhide Q6).at' 2 _ rfl).free 0
          have x9_1 := ((unhide Q6).at' 2 _ rfl).free 1
          have x9_2 := ((unhide Q6).at' 2 _ rfl).free 2
          have hne9 : ∀ x ∈ ([(lb1, [.int .i64 10, .int .i64 10, .int .i64 40, .int .i64 256], 2), (fb, [.int .i64 wd, .int .i64 ht, .string s], 24)] : List (Nat × List Value × TypeId)), x.1 ≠ w.heap.size := by simp; omega
          have Q9 := hide (((((unhide Q6).db.pick (bs' := (w.heap.size, [.int .i64 0, .int .i64 0, .string ⟨#[]⟩], 24) :: [(lb1, [.int .i64 10, .int .i64 10, .int .i64 40, .int .i64 256], 2), (fb, [.int .i64 wd, .int .i64 ht, .string s], 24)]) (by intro x hx; simp only [List.mem_cons, List.not_mem_nil, or_false] at hx; rcases hx with rfl | rfl | rfl <;> simp)).set hne9 0 (.int .i64 wd)).set hne9 1 (.int .i64 ht)).set hne9 2 (.string s))
          go_simp
          clear r9_0 x9_0 r9_1 x9_1 r9_2 x9_2
          generalize (((w6.setCell ⟨w.heap.size, 0, none⟩ (.int .i64 wd)).setCell ⟨w.heap.size, 1, none⟩ (.int .i64 ht)).setCell ⟨w.heap.size, 2, none⟩ (.string s)) = u9 at Q9 ⊢
          refine hK.out _ _ ?_ (fun hHeld9 => ?_)
          · exact ⟨lit_cellZ ((unhide Q9).at' 1 _ rfl) (by simp) hi2n hza, ((unhide Q9).at' 2 _ rfl).cell 0 _ rfl, ((unhide Q9).at' 2 _ rfl).cell 1 _ rfl, ((unhide Q9).at' 2 _ rfl).cell 2 _ rfl⟩
          clear hK K
          refine wpAnyH_take (i := 12) (v := ?_) rfl (by kernel_rfl) (by kernel_rfl) (by kernel_rfl) (fun _ _ _ h => h) (Or.inl ⟨by rfl, ?_⟩) (by assumption) ?_
          rotate_left
          · intro W0 hSw; (try dsimp only at hSw); go_simp <;> with_reducible rfl
          try simp only [Act.put, List.setIfInBounds_toArray, List.set_cons_zero, List.set_cons_succ]
          refine wpAnyH_ready (rs := [6]) (by kernel_rfl) (by simp) ?_
          refine (AllReadyH.cons rfl (fun K hK => ?_) AllReadyH.nil)
          go_simp
          have Q10 := hide ((unhide Q9).alloc [.int .i64 8, .int .i64 20, .int .i64 8, .int .i64 0] 2)
          have hlw10 := ((unhide Q9).at' 2 _ rfl).lt
          have hls10 := ((unhide Q9).at' 1 _ rfl).lt
          generalize u9.alloc (.cells #[.int .i64 8, .int .i64 20, .int .i64 8, .int .i64 0] 2) = v10 at Q10 ⊢
          generalize u9.heap.size = lb10 at *
          refine hK.out _ _ ?_ (fun hHeld10 => ?_)
          · exact ⟨lit_cellZ ((unhide Q10).at' 2 _ rfl) (by simp) hi2n hza, ((unhide Q10).at' 3 _ rfl).cell 0 _ rfl, ((unhide Q10).at' 3 _ rfl).cell 1 _ rfl, ((unhide Q10).at' 3 _ rfl).cell 2 _ rfl⟩
          clear hK K
          obtain ⟨zb, hzb⟩ : ∃ z, litZ [.int .i64 8, .int .i64 20, .int .i64 8, .int .i64 0] i6 = z := ⟨_, rfl⟩
          refine wpAnyH_more (S' := (fun w' => w'.cell? ⟨lb10, i6, none⟩ = some (.int .i64 zb) ∧ w'.cell? ⟨lb1, i2, none⟩ = some (.int .i64 za) ∧ w'.cell? ⟨fb, 0, none⟩ = some (.int .i64 wd) ∧ w'.cell? ⟨fb, 1, none⟩ = some (.int .i64 ht) ∧ w'.cell? ⟨fb, 2, none⟩ = some (.string s))) (fun _ h => h.2) ⟨lit_cellZ ((unhide Q10).at' 0 _ rfl) (by simp) hi6n hzb, lit_cellZ ((unhide Q10).at' 2 _ rfl) (by simp) hi2n hza, ((unhide Q10).at' 3 _ rfl).cell 0 _ rfl, ((unhide Q10).at' 3 _ rfl).cell 1 _ rfl, ((unhide Q10).at' 3 _ rfl).cell 2 _ rfl⟩ (fun hMore10 => ?_)
          refine wpAnyH_take (i := 9) (v := ?_) rfl (by kernel_rfl) (by kernel_rfl) (by kernel_rfl) (fun _ _ _ h => h) (Or.inl ⟨by rfl, ?_⟩) (by assumption) ?_
          rotate_left
          · intro W0 hSw; (try dsimp only at hSw); go_simp <;> with_reducible rfl
          try simp only [Act.put, List.setIfInBounds_toArray, List.set_cons_zero, List.set_cons_succ]
          refine wpAnyH_take (i := 10) (v := ?_) rfl (by kernel_rfl) (by kernel_rfl) (by kernel_rfl) (fun _ _ _ h => h) (Or.inl ⟨by rfl, ?_⟩) (by assumption) ?_
          rotate_left
          · intro W0 hSw; (try dsimp only at hSw); go_simp <;> with_reducible rfl
          try simp only [Act.put, List.setIfInBounds_toArray, List.set_cons_zero, List.set_cons_succ]
          refine wpAnyH_take (i := 13) (v := ?_) rfl (by kernel_rfl) (by kernel_rfl) (by kernel_rfl) (fun _ _ _ h => h) (Or.inl ⟨by rfl, ?_⟩) (by assumption) ?_
          rotate_left
          · intro W0 hSw; (try dsimp only at hSw); go_simp <;> with_reducible rfl
          try simp only [Act.put, List.setIfInBounds_toArray, List.set_cons_zero, List.set_cons_succ]
          refine wpAnyH_done (by kernel_rfl) ?_ _
          have y0_0 := ((unhide Q10).at' 1 _ rfl).cell 0 _ rfl
          have y0_1 := ((unhide Q10).at' 1 _ rfl).cell 1 _ rfl
          have y0_2 := ((unhide Q10).at' 1 _ rfl).cell 2 _ rfl
          go_wp2_with fail
          exact bodyPost_ret (v := .tuple #[.agg #[.int .i64 wd, .int .i64 ht, .string s], .int .i64 za, .int .i64 zb]) (by simp [results, Try.results19, go_sem, y0_0, y0_1, y0_2]) rfl ⟨⟨_, _, _, hs, _, _, rfl⟩, (unhide Q10).bel⟩
    · go_simp
      have Q11 := hide ((unhide Q1).alloc [.int .i64 8, .int .i64 20, .int .i64 8, .int .i64 0] 2)
      have hlw11 := ((unhide Q1).at' 1 _ rfl).lt
      have hls11 := ((unhide Q1).at' 0 _ rfl).lt
      generalize v1.alloc (.cells #[.int .i64 8, .int .i64 20, .int .i64 8, .int .i64 0] 2) = v11 at Q11 ⊢
      generalize v1.heap.size = lb11 at *
      refine hK.out _ _ ?_ (fun hHeld11 => ?_)
      · exact ⟨((unhide Q11).at' 2 _ rfl).cell 0 _ rfl, ((unhide Q11).at' 2 _ rfl).cell 1 _ rfl, ((unhide Q11).at' 2 _ rfl).cell 2 _ rfl⟩
      clear hK K
      refine wpAnyH_ready (rs := [3]) (by kernel_rfl) (by simp) ?_
      refine (AllReadyH.cons rfl (fun K hK => ?_) AllReadyH.nil)
      go_simp
      refine (n_any sb 4 _ (unhide Q11).src (by omega)).mono ?_
      rintro e w12 ⟨k12, rfl, hk12a, hk12b, _, hS12, hg12⟩
      have Q12 := hide ((unhide Q11).call hS12 hg12)
      clear hS12 hg12
      obtain ⟨i12, hi12⟩ := Int.eq_ofNat_of_zero_le hk12a
      have hk12c := hk12b (by omega)
      subst hi12
      have hi12n : i12 < 4 := by omega
      have hi12m : (i12 : Int) < 4 := by omega
      refine hK.out _ _ ?_ (fun hHeld12 => ?_)
      · exact ⟨((unhide Q12).at' 2 _ rfl).cell 0 _ rfl, ((unhide Q12).at' 2 _ rfl).cell 1 _ rfl, ((unhide Q12).at' 2 _ rfl).cell 2 _ rfl⟩
      clear hK K
      obtain ⟨za, hza⟩ : ∃ z, litZ [.int .i64 10, .int .i64 10, .int .i64 40, .int .i64 256] i12 = z := ⟨_, rfl⟩
      refine wpAnyH_more (S' := (fun w' => w'.cell? ⟨lb1, i12, none⟩ = some (.int .i64 za) ∧ w'.cell? ⟨fb, 0, none⟩ = some (.int .i64 wd) ∧ w'.cell? ⟨fb, 1, none⟩ = some (.int .i64 ht) ∧ w'.cell? ⟨fb, 2, none⟩ = some (.string s))) (fun _ h => h.2) ⟨lit_cellZ ((unhide Q12).at' 1 _ rfl) (by simp) hi12n hza, ((unhide Q12).at' 2 _ rfl).cell 0 _ rfl, ((unhide Q12).at' 2 _ rfl).cell 1 _ rfl, ((unhide Q12).at' 2 _ rfl).cell 2 _ rfl⟩ (fun hMore12 => ?_)
      refine wpAnyH_take (i := 4) (v := ?_) rfl (by kernel_rfl) (by kernel_rfl) (by kernel_rfl) (fun _ _ _ h => h) (Or.inl ⟨by rfl, ?_⟩) (by assumption) ?_
      rotate_left
      · intro W0 hSw; (try dsimp only at hSw); go_simp <;> with_reducible rfl
      try simp only [Act.put, List.setIfInBounds_toArray, List.set_cons_zero, List.set_cons_succ]
      refine wpAnyH_take (i := 5) (v := ?_) rfl (by kernel_rfl) (by kernel_rfl) (by kernel_rfl) (fun _ _ _ h => h) (Or.inl ⟨by rfl, ?_⟩) (by assumption) ?_
      rotate_left
      · intro W0 hSw; (try dsimp only at hSw); go_simp <;> with_reducible rfl
      try simp only [Act.put, List.setIfInBounds_toArray, List.set_cons_zero, List.set_cons_succ]
      refine wpAnyH_ready (rs := [8]) (by kernel_rfl) (by simp) ?_
      refine (AllReadyH.cons rfl (fun K hK => ?_) AllReadyH.nil)
      go_simp
      refine (n_any sb 4 _ (unhide Q12).src (by omega)).mono ?_
      rintro e w13 ⟨k13, rfl, hk13a, hk13b, _, hS13, hg13⟩
      have Q13 := hide ((unhide Q12).call hS13 hg13)
      clear hS13 hg13
      obtain ⟨i13, hi13⟩ := Int.eq_ofNat_of_zero_le hk13a
      have hk13c := hk13b (by omega)
      subst hi13
      have hi13n : i13 < 4 := by omega
      have hi13m : (i13 : Int) < 4 := by omega
      refine hK.out _ _ ?_ (fun hHeld13 => ?_)
      · exact ⟨lit_cellZ ((unhide Q13).at' 1 _ rfl) (by simp) hi12n hza, ((unhide Q13).at' 2 _ rfl).cell 0 _ rfl, ((unhide Q13).at' 2 _ rfl).cell 1 _ rfl, ((unhide Q13).at' 2 _ rfl).cell 2 _ rfl⟩
      clear hK K
      obtain ⟨zb, hzb⟩ : ∃ z, litZ [.int .i64 8, .int .i64 20, .int .i64 8, .int .i64 0] i13 = z := ⟨_, rfl⟩
      refine wpAnyH_more (S' := (fun w' => w'.cell? ⟨lb11, i13, none⟩ = some (.int .i64 zb) ∧ w'.cell? ⟨lb1, i12, none⟩ = some (.int .i64 za) ∧ w'.cell? ⟨fb, 0, none⟩ = some (.int .i64 wd) ∧ w'.cell? ⟨fb, 1, none⟩ = some (.int .i64 ht) ∧ w'.cell? ⟨fb, 2, none⟩ = some (.string s))) (fun _ h => h.2) ⟨lit_cellZ ((unhide Q13).at' 0 _ rfl) (by simp) hi13n hzb, lit_cellZ ((unhide Q13).at' 1 _ rfl) (by simp) hi12n hza, ((unhide Q13).at' 2 _ rfl).cell 0 _ rfl, ((unhide Q13).at' 2 _ rfl).cell 1 _ rfl, ((unhide Q13).at' 2 _ rfl).cell 2 _ rfl⟩ (fun hMore13 => ?_)
      refine wpAnyH_take (i := 9) (v := ?_) rfl (by kernel_rfl) (by kernel_rfl) (by kernel_rfl) (fun _ _ _ h => h) (Or.inl ⟨by rfl, ?_⟩) (by assumption) ?_
      rotate_left
      · intro W0 hSw; (try dsimp only at hSw); go_simp <;> with_reducible rfl
      try simp only [Act.put, List.setIfInBounds_toArray, List.set_cons_zero, List.set_cons_succ]
      refine wpAnyH_take (i := 10) (v := ?_) rfl (by kernel_rfl) (by kernel_rfl) (by kernel_rfl) (fun _ _ _ h => h) (Or.inl ⟨by rfl, ?_⟩) (by assumption) ?_
      rotate_left
      · intro W0 hSw; (try dsimp only at hSw); go_simp <;> with_reducible rfl
      try simp only [Act.put, List.setIfInBounds_toArray, List.set_cons_zero, List.set_cons_succ]
      refine wpAnyH_ready (rs := [11]) (by kernel_rfl) (by simp) ?_
      refine (AllReadyH.cons rfl (fun K hK => ?_) AllReadyH.nil)
      have r14_0 := ((unhide Q13).at' 3 _ rfl).cell 0 _ rfl
      have r14_1 := ((unhide Q13).at' 3 _ rfl).cell 1 _ rfl
      have r14_2 := ((unhide Q13).at' 3 _ rfl).cell 2 _ rfl
      have x14_0 := ((unhide Q13).at' 3 _ rfl).free 0
      have x14_1 := ((unhide Q13).at' 3 _ rfl).free 1
      have x14_2 := ((unhide Q13).at' 3 _ rfl).free 2
      have hne14 : ∀ x ∈ ([(lb11, [.int .i64 8, .int .i64 20, .int .i64 8, .int .i64 0], 2), (lb1, [.int .i64 10, .int .i64 10, .int .i64 40, .int .i64 256], 2), (fb, [.int .i64 wd, .int .i64 ht, .string s], 24)] : List (Nat × List Value × TypeId)), x.1 ≠ w.heap.size := by simp; omega
      have Q14 := hide (((((unhide Q13).db.pick (bs' := (w.heap.size, [.int .i64 0, .int .i64 0, .string ⟨#[]⟩], 24) :: [(lb11, [.int .i64 8, .int .i64 20, .int .i64 8, .int .i64 0], 2), (lb1, [.int .i64 10, .int .i64 10, .int .i64 40, .int .i64 256], 2), (fb, [.int .i64 wd, .int .i64 ht, .string s], 24)]) (by intro x hx; simp only [List.mem_cons, List.not_mem_nil, or_false] at hx; rcases hx with rfl | rfl | rfl | rfl <;> simp)).set hne14 0 (.int .i64 wd)).set hne14 1 (.int .i64 ht)).set hne14 2 (.string s))
      go_simp
      clear r14_0 x14_0 r14_1 x14_1 r14_2 x14_2
      generalize (((w13.setCell ⟨w.heap.size, 0, none⟩ (.int .i64 wd)).setCell ⟨w.heap.size, 1, none⟩ (.int .i64 ht)).setCell ⟨w.heap.size, 2, none⟩ (.string s)) = u14 at Q14 ⊢
      refine hK.out _ _ ?_ (fun hHeld14 => ?_)
      · exact ⟨lit_cellZ ((unhide Q14).at' 1 _ rfl) (by simp) hi13n hzb, lit_cellZ ((unhide Q14).at' 2 _ rfl) (by simp) hi12n hza, ((unhide Q14).at' 3 _ rfl).cell 0 _ rfl, ((unhide Q14).at' 3 _ rfl).cell 1 _ rfl, ((unhide Q14).at' 3 _ rfl).cell 2 _ rfl⟩
      clear hK K
      refine wpAnyH_take (i := 12) (v := ?_) rfl (by kernel_rfl) (by kernel_rfl) (by kernel_rfl) (fun _ _ _ h => h) (Or.inl ⟨by rfl, ?_⟩) (by assumption) ?_
      rotate_left
      · intro W0 hSw; (try dsimp only at hSw); go_simp <;> with_reducible rfl
      try simp only [Act.put, List.setIfInBounds_toArray, List.set_cons_zero, List.set_cons_succ]
      refine wpAnyH_take (i := 13) (v := ?_) rfl (by kernel_rfl) (by kernel_rfl) (by kernel_rfl) (fun _ _ _ h => h) (Or.inl ⟨by rfl, ?_⟩) (by assumption) ?_
      rotate_left
      · intro W0 hSw; (try dsimp only at hSw); go_simp <;> with_reducible rfl
      try simp only [Act.put, List.setIfInBounds_toArray, List.set_cons_zero, List.set_cons_succ]
      refine wpAnyH_done (by kernel_rfl) ?_ _
      have y0_0 := ((unhide Q14).at' 0 _ rfl).cell 0 _ rfl
      have y0_1 := ((unhide Q14).at' 0 _ rfl).cell 1 _ rfl
      have y0_2 := ((unhide Q14).at' 0 _ rfl).cell 2 _ rfl
      go_wp2_with fail
      exact bodyPost_ret (v := .tuple #[.agg #[.int .i64 wd, .int .i64 ht, .string s], .int .i64 za, .int .i64 zb]) (by simp [results, Try.results19, go_sem, y0_0, y0_1, y0_2]) rfl ⟨⟨_, _, _, hs, _, _, rfl⟩, (unhide Q14).bel⟩
  · go_simp
    refine (n_any sb 4 _ (unhide Q0).src (by omega)).mono ?_
    rintro e w15 ⟨k15, rfl, hk15a, hk15b, _, hS15, hg15⟩
    have Q15 := hide ((unhide Q0).call hS15 hg15)
    clear hS15 hg15
    obtain ⟨i15, hi15⟩ := Int.eq_ofNat_of_zero_le hk15a
    have hk15c := hk15b (by omega)
    subst hi15
    have hi15n : i15 < 4 := by omega
    have hi15m : (i15 : Int) < 4 := by omega
    refine hK.out _ _ ?_ (fun hHeld15 => ?_)
    · exact ⟨((unhide Q15).at' 0 _ rfl).cell 0 _ rfl, ((unhide Q15).at' 0 _ rfl).cell 1 _ rfl, ((unhide Q15).at' 0 _ rfl).cell 2 _ rfl⟩
    clear hK K
    refine wpAnyH_ready (rs := [1, 6, 8]) (by kernel_rfl) (by simp) ?_
    refine (AllReadyH.cons rfl (fun K hK => ?_) (AllReadyH.cons rfl (fun K hK => ?_) (AllReadyH.cons rfl (fun K hK => ?_) AllReadyH.nil)))
    · go_simp
      have Q16 := hide ((unhide Q15).alloc [.int .i64 10, .int .i64 10, .int .i64 40, .int .i64 256] 2)
      have hlw16 := ((unhide Q15).at' 0 _ rfl).lt
      generalize w15.alloc (.cells #[.int .i64 10, .int .i64 10, .int .i64 40, .int .i64 256] 2) = v16 at Q16 ⊢
      generalize w15.heap.size = lb16 at *
      refine hK.out _ _ ?_ (fun hHeld16 => ?_)
      · exact ⟨((unhide Q16).at' 1 _ rfl).cell 0 _ rfl, ((unhide Q16).at' 1 _ rfl).cell 1 _ rfl, ((unhide Q16).at' 1 _ rfl).cell 2 _ rfl⟩
      clear hK K
      obtain ⟨za, hza⟩ : ∃ z, litZ [.int .i64 10, .int .i64 10, .int .i64 40, .int .i64 256] i15 = z := ⟨_, rfl⟩
      refine wpAnyH_more (S' := (fun w' => w'.cell? ⟨lb16, i15, none⟩ = some (.int .i64 za) ∧ w'.cell? ⟨fb, 0, none⟩ = some (.int .i64 wd) ∧ w'.cell? ⟨fb, 1, none⟩ = some (.int .i64 ht) ∧ w'.cell? ⟨fb, 2, none⟩ = some (.string s))) (fun _ h => h.2) ⟨lit_cellZ ((unhide Q16).at' 0 _ rfl) (by simp) hi15n hza, ((unhide Q16).at' 1 _ rfl).cell 0 _ rfl, ((unhide Q16).at' 1 _ rfl).cell 1 _ rfl, ((unhide Q16).at' 1 _ rfl).cell 2 _ rfl⟩ (fun hMore16 => ?_)
      refine wpAnyH_take (i := 4) (v := ?_) rfl (by kernel_rfl) (by kernel_rfl) (by kernel_rfl) (fun _ _ _ h => h) (Or.inl ⟨by rfl, ?_⟩) (by assumption) ?_
      rotate_left
      · intro W0 hSw; (try dsimp only at hSw); go_simp <;> with_reducible rfl
      try simp only [Act.put, List.setIfInBounds_toArray, List.set_cons_zero, List.set_cons_succ]
      refine wpAnyH_take (i := 5) (v := ?_) rfl (by kernel_rfl) (by kernel_rfl) (by kernel_rfl) (fun _ _ _ h => h) (Or.inl ⟨by rfl, ?_⟩) (by assumption) ?_
      rotate_left
      · intro W0 hSw; (try dsimp only at hSw); go_simp <;> with_reducible rfl
      try simp only [Act.put, List.setIfInBounds_toArray, List.set_cons_zero, List.set_cons_succ]
      refine wpAnyH_ready (rs := [6, 8]) (by kernel_rfl) (by simp) ?_
      refine (AllReadyH.cons rfl (fun K hK => ?_) (AllReadyH.cons rfl (fun K hK => ?_) AllReadyH.nil))
      · go_simp
        have Q17 := hide ((unhide Q16).alloc [.int .i64 8, .int .i64 20, .int .i64 8, .int .i64 0] 2)
        have hlw17 := ((unhide Q16).at' 1 _ rfl).lt
        have hls17 := ((unhide Q16).at' 0 _ rfl).lt
        generalize v16.alloc (.cells #[.int .i64 8, .int .i64 20, .int .i64 8, .int .i64 0] 2) = v17 at Q17 ⊢
        generalize v16.heap.size = lb17 at *
        refine hK.out _ _ ?_ (fun hHeld17 => ?_)
        · exact ⟨lit_cellZ ((unhide Q17).at' 1 _ rfl) (by simp) hi15n hza, ((unhide Q17).at' 2 _ rfl).cell 0 _ rfl, ((unhide Q17).at' 2 _ rfl).cell 1 _ rfl, ((unhide Q17).at' 2 _ rfl).cell 2 _ rfl⟩
        clear hK K
        refine wpAnyH_ready (rs := [8]) (by kernel_rfl) (by simp) ?_
        refine (AllReadyH.cons rfl (fun K hK => ?_) AllReadyH.nil)
        go_simp
        refine (n_any sb 4 _ (unhide Q17).src (by omega)).mono ?_
        rintro e w18 ⟨k18, rfl, hk18a, hk18b, _, hS18, hg18⟩
        have Q18 := hide ((unhide Q17).call hS18 hg18)
        clear hS18 hg18
        obtain ⟨i18, hi18⟩ := Int.eq_ofNat_of_zero_le hk18a
        have hk18c := hk18b (by omega)
        subst hi18
        have hi18n : i18 < 4 := by omega
        have hi18m : (i18 : Int) < 4 := by omega
        refine hK.out _ _ ?_ (fun hHeld18 => ?_)
        · exact ⟨lit_cellZ ((unhide Q18).at' 1 _ rfl) (by simp) hi15n hza, ((unhide Q18).at' 2 _ rfl).cell 0 _ rfl, ((unhide Q18).at' 2 _ rfl).cell 1 _ rfl, ((unhide Q18).at' 2 _ rfl).cell 2 _ rfl⟩
        clear hK K
        obtain ⟨zb, hzb⟩ : ∃ z, litZ [.int .i64 8, .int .i64 20, .int .i64 8, .int .i64 0] i18 = z := ⟨_, rfl⟩
        refine wpAnyH_more (S' := (fun w' => w'.cell? ⟨lb17, i18, none⟩ = some (.int .i64 zb) ∧ w'.cell? ⟨lb16, i15, none⟩ = some (.int .i64 za) ∧ w'.cell? ⟨fb, 0, none⟩ = some (.int .i64 wd) ∧ w'.cell? ⟨fb, 1, none⟩ = some (.int .i64 ht) ∧ w'.cell? ⟨fb, 2, none⟩ = some (.string s))) (fun _ h => h.2) ⟨lit_cellZ ((unhide Q18).at' 0 _ rfl) (by simp) hi18n hzb, lit_cellZ ((unhide Q18).at' 1 _ rfl) (by simp) hi15n hza, ((unhide Q18).at' 2 _ rfl).cell 0 _ rfl, ((unhide Q18).at' 2 _ rfl).cell 1 _ rfl, ((unhide Q18).at' 2 _ rfl).cell 2 _ rfl⟩ (fun hMore18 => ?_)
        refine wpAnyH_take (i := 9) (v := ?_) rfl (by kernel_rfl) (by kernel_rfl) (by kernel_rfl) (fun _ _ _ h => h) (Or.inl ⟨by rfl, ?_⟩) (by assumption) ?_
        rotate_left
        · intro W0 hSw; (try dsimp only at hSw); go_simp <;> with_reducible rfl
        try simp only [Act.put, List.setIfInBounds_toArray, List.set_cons_zero, List.set_cons_succ]
        refine wpAnyH_take (i := 10) (v := ?_) rfl (by kernel_rfl) (by kernel_rfl) (by kernel_rfl) (fun _ _ _ h => h) (Or.inl ⟨by rfl, ?_⟩) (by assumption) ?_
        rotate_left
        · intro W0 hSw; (try dsimp only at hSw); go_simp <;> with_reducible rfl
        try simp only [Act.put, List.setIfInBounds_toArray, List.set_cons_zero, List.set_cons_succ]
        refine wpAnyH_ready (rs := [11]) (by kernel_rfl) (by simp) ?_
        refine (AllReadyH.cons rfl (fun K hK => ?_) AllReadyH.nil)
        have r19_0 := ((unhide Q18).at' 3 _ rfl).cell 0 _ rfl
        have r19_1 := ((unhide Q18).at' 3 _ rfl).cell 1 _ rfl
        have r19_2 := ((unhide Q18).at' 3 _ rfl).cell 2 _ rfl
        have x19_0 := ((unhide Q18).at' 3 _ rfl).free 0
        have x19_1 := ((unhide Q18).at' 3 _ rfl).free 1
        have x19_2 := ((unhide Q18).at' 3 _ rfl).free 2
        have hne19 : ∀ x ∈ ([(lb17, [.int .i64 8, .int .i64 20, .int .i64 8, .int .i64 0], 2), (lb16, [.int .i64 10, .int .i64 10, .int .i64 40, .int .i64 256], 2), (fb, [.int .i64 wd, .int .i64 ht, .string s], 24)] : List (Nat × List Value × TypeId)), x.1 ≠ w.heap.size := by simp; omega
        have Q19 := hide (((((unhide Q18).db.pick (bs' := (w.heap.size, [.int .i64 0, .int .i64 0, .string ⟨#[]⟩], 24) :: [(lb17, [.int .i64 8, .int .i64 20, .int .i64 8, .int .i64 0], 2), (lb16, [.int .i64 10, .int .i64 10, .int .i64 40, .int .i64 256], 2), (fb, [.int .i64 wd, .int .i64 ht, .string s], 24)]) (by intro x hx; simp only [List.mem_cons, List.not_mem_nil, or_false] at hx; rcases hx with rfl | rfl | rfl | rfl <;> simp)).set hne19 0 (.int .i64 wd)).set hne19 1 (.int .i64 ht)).set hne19 2 (.string s))
        go_simp
        clear r19_0 x19_0 r19_1 x19_1 r19_2 x19_2
        generalize (((w18.setCell ⟨w.heap.size, 0, none⟩ (.int .i64 wd)).setCell ⟨w.heap.size, 1, none⟩ (.int .i64 ht)).setCell ⟨w.heap.size, 2, none⟩ (.string s)) = u19 at Q19 ⊢
        refine hK.out _ _ ?_ (fun hHeld19 => ?_)
        · exact ⟨lit_cellZ ((unhide Q19).at' 1 _ rfl) (by simp) hi18n hzb, lit_cellZ ((unhide Q19).at' 2 _ rfl) (by simp) hi15n hza, ((unhide Q19).at' 3 _ rfl).cell 0 _ rfl, ((unhide Q19).at' 3 _ rfl).cell 1 _ rfl, ((unhide Q19).at' 3 _ rfl).cell 2 _ rfl⟩
        clear hK K
        refine wpAnyH_take (i := 12) (v := ?_) rfl (by kernel_rfl) (by kernel_rfl) (by kernel_rfl) (fun _ _ _ h => h) (Or.inl ⟨by rfl, ?_⟩) (by assumption) ?_
        rotate_left
        · intro W0 hSw; (try dsimp only at hSw); go_simp <;> with_reducible rfl
        try simp only [Act.put, List.setIfInBounds_toArray, List.set_cons_zero, List.set_cons_succ]
        refine wpAnyH_take (i := 13) (v := ?_) rfl (by kernel_rfl) (by kernel_rfl) (by kernel_rfl) (fun _ _ _ h => h) (Or.inl ⟨by rfl, ?_⟩) (by assumption) ?_
        rotate_left
        · intro W0 hSw; (try dsimp only at hSw); go_simp <;> with_reducible rfl
        try simp only [Act.put, List.setIfInBounds_toArray, List.set_cons_zero, List.set_cons_succ]
        refine wpAnyH_done (by kernel_rfl) ?_ _
        have y0_0 := ((unhide Q19).at' 0 _ rfl).cell 0 _ rfl
        have y0_1 := ((unhide Q19).at' 0 _ rfl).cell 1 _ rfl
        have y0_2 := ((unhide Q19).at' 0 _ rfl).cell 2 _ rfl
        go_wp2_with fail
        exact bodyPost_ret (v := .tuple #[.agg #[.int .i64 wd, .int .i64 ht, .string s], .int .i64 za, .int .i64 zb]) (by simp [results, Try.results19, go_sem, y0_0, y0_1, y0_2]) rfl ⟨⟨_, _, _, hs, _, _, rfl⟩, (unhide Q19).bel⟩
      · go_simp
        refine (n_any sb 4 _ (unhide Q16).src (by omega)).mono ?_
        rintro e w20 ⟨k20, rfl, hk20a, hk20b, _, hS20, hg20⟩
        have Q20 := hide ((unhide Q16).call hS20 hg20)
        clear hS20 hg20
        obtain ⟨i20, hi20⟩ := Int.eq_ofNat_of_zero_le hk20a
        have hk20c := hk20b (by omega)
        subst hi20
        have hi20n : i20 < 4 := by omega
        have hi20m : (i20 : Int) < 4 := by omega
        refine hK.out _ _ ?_ (fun hHeld20 => ?_)
        · exact ⟨lit_cellZ ((unhide Q20).at' 0 _ rfl) (by simp) hi15n hza, ((unhide Q20).at' 1 _ rfl).cell 0 _ rfl, ((unhide Q20).at' 1 _ rfl).cell 1 _ rfl, ((unhide Q20).at' 1 _ rfl).cell 2 _ rfl⟩
        clear hK K
        refine wpAnyH_ready (rs := [6, 11]) (by kernel_rfl) (by simp) ?_
        refine (AllReadyH.cons rfl (fun K hK => ?_) (AllReadyH.cons rfl (fun K hK => ?_) AllReadyH.nil))
        · go_simp
          have Q21 := hide ((unhide Q20).alloc [.int .i64 8, .int .i64 20, .int .i64 8, .int .i64 0] 2)
          have hlw21 := ((unhide Q20).at' 1 _ rfl).lt
          have hls21 := ((unhide Q20).at' 0 _ rfl).lt
          generalize w20.alloc (.cells #[.int .i64 8, .int .i64 20, .int .i64 8, .int .i64 0] 2) = v21 at Q21 ⊢
          generalize w20.heap.size = lb21 at *
          refine hK.out _ _ ?_ (fun hHeld21 => ?_)
          · exact ⟨lit_cellZ ((unhide Q21).at' 1 _ rfl) (by simp) hi15n hza, ((unhide Q21).at' 2 _ rfl).cell 0 _ rfl, ((unhide Q21).at' 2 _ rfl).cell 1 _ rfl, ((unhide Q21).at' 2 _ rfl).cell 2 _ rfl⟩
          clear hK K
          obtain ⟨zb, hzb⟩ : ∃ z, litZ [.int .i64 8, .int .i64 20, .int .i64 8, .int .i64 0] i20 = z := ⟨_, rfl⟩
          refine wpAnyH_more (S' := (fun w' => w'.cell? ⟨lb21, i20, none⟩ = some (.int .i64 zb) ∧ w'.cell? ⟨lb16, i15, none⟩ = some (.int .i64 za) ∧ w'.cell? ⟨fb, 0, none⟩ = some (.int .i64 wd) ∧ w'.cell? ⟨fb, 1, none⟩ = some (.int .i64 ht) ∧ w'.cell? ⟨fb, 2, none⟩ = some (.string s))) (fun _ h => h.2) ⟨lit_cellZ ((unhide Q21).at' 0 _ rfl) (by simp) hi20n hzb, lit_cellZ ((unhide Q21).at' 1 _ rfl) (by simp) hi15n hza, ((unhide Q21).at' 2 _ rfl).cell 0 _ rfl, ((unhide Q21).at' 2 _ rfl).cell 1 _ rfl, ((unhide Q21).at' 2 _ rfl).cell 2 _ rfl⟩ (fun hMore21 => ?_)
          refine wpAnyH_take (i := 9) (v := ?_) rfl (by kernel_rfl) (by kernel_rfl) (by kernel_rfl) (fun _ _ _ h => h) (Or.inl ⟨by rfl, ?_⟩) (by assumption) ?_
          rotate_left
          · intro W0 hSw; (try dsimp only at hSw); go_simp <;> with_reducible rfl
          try simp only [Act.put, List.setIfInBounds_toArray, List.set_cons_zero, List.set_cons_succ]
          refine wpAnyH_take (i := 10) (v := ?_) rfl (by kernel_rfl) (by kernel_rfl) (by kernel_rfl) (fun _ _ _ h => h) (Or.inl ⟨by rfl, ?_⟩) (by assumption) ?_
          rotate_left
          · intro W0 hSw; (try dsimp only at hSw); go_simp <;> with_reducible rfl
          try simp only [Act.put, List.setIfInBounds_toArray, List.set_cons_zero, List.set_cons_succ]
          refine wpAnyH_ready (rs := [11]) (by kernel_rfl) (by simp) ?_
          refine (AllReadyH.cons rfl (fun K hK => ?_) AllReadyH.nil)
          have r22_0 := ((unhide Q21).at' 3 _ rfl).cell 0 _ rfl
          have r22_1 := ((unhide Q21).at' 3 _ rfl).cell 1 _ rfl
          have r22_2 := ((unhide Q21).at' 3 _ rfl).cell 2 _ rfl
          have x22_0 := ((unhide Q21).at' 3 _ rfl).free 0
          have x22_1 := ((unhide Q21).at' 3 _ rfl).free 1
          have x22_2 := ((unhide Q21).at' 3 _ rfl).free 2
          have hne22 : ∀ x ∈ ([(lb21, [.int .i64 8, .int .i64 20, .int .i64 8, .int .i64 0], 2), (lb16, [.int .i64 10, .int .i64 10, .int .i64 40, .int .i64 256], 2), (fb, [.int .i64 wd, .int .i64 ht, .string s], 24)] : List (Nat × List Value × TypeId)), x.1 ≠ w.heap.size := by simp; omega
          have Q22 := hide (((((unhide Q21).db.pick (bs' := (w.heap.size, [.int .i64 0, .int .i64 0, .string ⟨#[]⟩], 24) :: [(lb21, [.int .i64 8, .int .i64 20, .int .i64 8, .int .i64 0], 2), (lb16, [.int .i64 10, .int .i64 10, .int .i64 40, .int .i64 256], 2), (fb, [.int .i64 wd, .int .i64 ht, .string s], 24)]) (by intro x hx; simp only [List.mem_cons, List.not_mem_nil, or_false] at hx; rcases hx with rfl | rfl | rfl | rfl <;> simp)).set hne22 0 (.int .i64 wd)).set hne22 1 (.int .i64 ht)).set hne22 2 (.string s))
          go_simp
          clear r22_0 x22_0 r22_1 x22_1 r22_2 x22_2
          generalize (((v21.setCell ⟨w.heap.size, 0, none⟩ (.int .i64 wd)).setCell ⟨w.heap.size, 1, none⟩ (.int .i64 ht)).setCell ⟨w.heap.size, 2, none⟩ (.string s)) = u22 at Q22 ⊢
          refine hK.out _ _ ?_ (fun hHeld22 => ?_)
          · exact ⟨lit_cellZ ((unhide Q22).at' 1 _ rfl) (by simp) hi20n hzb, lit_cellZ ((unhide Q22).at' 2 _ rfl) (by simp) hi15n hza, ((unhide Q22).at' 3 _ rfl).cell 0 _ rfl, ((unhide Q22).at' 3 _ rfl).cell 1 _ rfl, ((unhide Q22).at' 3 _ rfl).cell 2 _ rfl⟩
          clear hK K
          refine wpAnyH_take (i := 12) (v := ?_) rfl (by kernel_rfl) (by kernel_rfl) (by kernel_rfl) (fun _ _ _ h => h) (Or.inl ⟨by rfl, ?_⟩) (by assumption) ?_
          rotate_left
          · intro W0 hSw; (try dsimp only at hSw); go_simp <;> with_reducible rfl
          try simp only [Act.put, List.setIfInBounds_toArray, List.set_cons_zero, List.set_cons_succ]
          refine wpAnyH_take (i := 13) (v := ?_) rfl (by kernel_rfl) (by kernel_rfl) (by kernel_rfl) (fun _ _ _ h => h) (Or.inl ⟨by rfl, ?_⟩) (by assumption) ?_
          rotate_left
          · intro W0 hSw; (try dsimp only at hSw); go_simp <;> with_reducible rfl
          try simp only [Act.put, List.setIfInBounds_toArray, List.set_cons_zero, List.set_cons_succ]
          refine wpAnyH_done (by kernel_rfl) ?_ _
          have y0_0 := ((unhide Q22).at' 0 _ rfl).cell 0 _ rfl
          have y0_1 := ((unhide Q22).at' 0 _ rfl).cell 1 _ rfl
          have y0_2 := ((unhide Q22).at' 0 _ rfl).cell 2 _ rfl
          go_wp2_with fail
          exact bodyPost_ret (v := .tuple #[.agg #[.int .i64 wd, .int .i64 ht, .string s], .int .i64 za, .int .i64 zb]) (by simp [results, Try.results19, go_sem, y0_0, y0_1, y0_2]) rfl ⟨⟨_, _, _, hs, _, _, rfl⟩, (unhide Q22).bel⟩
        · have r23_0 := ((unhide Q20).at' 2 _ rfl).cell 0 _ rfl
          have r23_1 := ((unhide Q20).at' 2 _ rfl).cell 1 _ rfl
          have r23_2 := ((unhide Q20).at' 2 _ rfl).cell 2 _ rfl
          have x23_0 := ((unhide Q20).at' 2 _ rfl).free 0
          have x23_1 := ((unhide Q20).at' 2 _ rfl).free 1
          have x23_2 := ((unhide Q20).at' 2 _ rfl).free 2
          have hne23 : ∀ x ∈ ([(lb16, [.int .i64 10, .int .i64 10, .int .i64 40, .int .i64 256], 2), (fb, [.int .i64 wd, .int .i64 ht, .string s], 24)] : List (Nat × List Value × TypeId)), x.1 ≠ w.heap.size := by simp; omega
          have Q23 := hide (((((unhide Q20).db.pick (bs' := (w.heap.size, [.int .i64 0, .int .i64 0, .string ⟨#[]⟩], 24) :: [(lb16, [.int .i64 10, .int .i64 10, .int .i64 40, .int .i64 256], 2), (fb, [.int .i64 wd, .int .i64 ht, .string s], 24)]) (by intro x hx; simp only [List.mem_cons, List.not_mem_nil, or_false] at hx; rcases hx with rfl | rfl | rfl <;> simp)).set hne23 0 (.int .i64 wd)).set hne23 1 (.int .i64 ht)).set hne23 2 (.string s))
          go_simp
          clear r23_0 x23_0 r23_1 x23_1 r23_2 x23_2
          generalize (((w20.setCell ⟨w.heap.size, 0, none⟩ (.int .i64 wd)).setCell ⟨w.heap.size, 1, none⟩ (.int .i64 ht)).setCell ⟨w.heap.size, 2, none⟩ (.string s)) = u23 at Q23 ⊢
          refine hK.out _ _ ?_ (fun hHeld23 => ?_)
          · exact ⟨lit_cellZ ((unhide Q23).at' 1 _ rfl) (by simp) hi15n hza, ((unhide Q23).at' 2 _ rfl).cell 0 _ rfl, ((unhide Q23).at' 2 _ rfl).cell 1 _ rfl, ((unhide Q23).at' 2 _ rfl).cell 2 _ rfl⟩
          clear hK K
          refine wpAnyH_take (i := 12) (v := ?_) rfl (by kernel_rfl) (by kernel_rfl) (by kernel_rfl) (fun _ _ _ h => h) (Or.inl ⟨by rfl, ?_⟩) (by assumption) ?_
          rotate_left
          · intro W0 hSw; (try dsimp only at hSw); go_simp <;> with_reducible rfl
          try simp only [Act.put, List.setIfInBounds_toArray, List.set_cons_zero, List.set_cons_succ]
          refine wpAnyH_ready (rs := [6]) (by kernel_rfl) (by simp) ?_
          refine (AllReadyH.cons rfl (fun K hK => ?_) AllReadyH.nil)
          go_simp
          have Q24 := hide ((unhide Q23).alloc [.int .i64 8, .int .i64 20, .int .i64 8, .int .i64 0] 2)
          have hlw24 := ((unhide Q23).at' 2 _ rfl).lt
          have hls24 := ((unhide Q23).at' 1 _ rfl).lt
          generalize u23.alloc (.cells #[.int .i64 8, .int .i64 20, .int .i64 8, .int .i64 0] 2) = v24 at Q24 ⊢
          generalize u23.heap.size = lb24 at *
          refine hK.out _ _ ?_ (fun hHeld24 => ?_)
          · exact ⟨lit_cellZ ((unhide Q24).at' 2 _ rfl) (by simp) hi15n hza, ((unhide Q24).at' 3 _ rfl).cell 0 _ rfl, ((unhide Q24).at' 3 _ rfl).cell 1 _ rfl, ((unhide Q24).at' 3 _ rfl).cell 2 _ rfl⟩
          clear hK K
          obtain ⟨zb, hzb⟩ : ∃ z, litZ [.int .i64 8, .int .i64 20, .int .i64 8, .int .i64 0] i20 = z := ⟨_, rfl⟩
          refine wpAnyH_more (S' := (fun w' => w'.cell? ⟨lb24, i20, none⟩ = some (.int .i64 zb) ∧ w'.cell? ⟨lb16, i15, none⟩ = some (.int .i64 za) ∧ w'.cell? ⟨fb, 0, none⟩ = some (.int .i64 wd) ∧ w'.cell? ⟨fb, 1, none⟩ = some (.int .i64 ht) ∧ w'.cell? ⟨fb, 2, none⟩ = some (.string s))) (fun _ h => h.2) ⟨lit_cellZ ((unhide Q24).at' 0 _ rfl) (by simp) hi20n hzb, lit_cellZ ((unhide Q24).at' 2 _ rfl) (by simp) hi15n hza, ((unhide Q24).at' 3 _ rfl).cell 0 _ rfl, ((unhide Q24).at' 3 _ rfl).cell 1 _ rfl, ((unhide Q24).at' 3 _ rfl).cell 2 _ rfl⟩ (fun hMore24 => ?_)
          refine wpAnyH_take (i := 9) (v := ?_) rfl (by kernel_rfl) (by kernel_rfl) (by kernel_rfl) (fun _ _ _ h => h) (Or.inl ⟨by rfl, ?_⟩) (by assumption) ?_
          rotate_left
          · intro W0 hSw; (try dsimp only at hSw); go_simp <;> with_reducible rfl
          try simp only [Act.put, List.setIfInBounds_toArray, List.set_cons_zero, List.set_cons_succ]
          refine wpAnyH_take (i := 10) (v := ?_) rfl (by kernel_rfl) (by kernel_rfl) (by kernel_rfl) (fun _ _ _ h => h) (Or.inl ⟨by rfl, ?_⟩) (by assumption) ?_
          rotate_left
          · intro W0 hSw; (try dsimp only at hSw); go_simp <;> with_reducible rfl
          try simp only [Act.put, List.setIfInBounds_toArray, List.set_cons_zero, List.set_cons_succ]
          refine wpAnyH_take (i := 13) (v := ?_) rfl (by kernel_rfl) (by kernel_rfl) (by kernel_rfl) (fun _ _ _ h => h) (Or.inl ⟨by rfl, ?_⟩) (by assumption) ?_
          rotate_left
          · intro W0 hSw; (try dsimp only at hSw); go_simp <;> with_reducible rfl
          try simp only [Act.put, List.setIfInBounds_toArray, List.set_cons_zero, List.set_cons_succ]
          refine wpAnyH_done (by kernel_rfl) ?_ _
          have y0_0 := ((unhide Q24).at' 1 _ rfl).cell 0 _ rfl
          have y0_1 := ((unhide Q24).at' 1 _ rfl).cell 1 _ rfl
          have y0_2 := ((unhide Q24).at' 1 _ rfl).cell 2 _ rfl
          go_wp2_with fail
          exact bodyPost_ret (v := .tuple #[.agg #[.int .i64 wd, .int .i64 ht, .string s], .int .i64 za, .int .i64 zb]) (by simp [results, Try.results19, go_sem, y0_0, y0_1, y0_2]) rfl ⟨⟨_, _, _, hs, _, _, rfl⟩, (unhide Q24).bel⟩
    · go_simp
      have Q25 := hide ((unhide Q15).alloc [.int .i64 8, .int .i64 20, .int .i64 8, .int .i64 0] 2)
      have hlw25 := ((unhide Q15).at' 0 _ rfl).lt
      generalize w15.alloc (.cells #[.int .i64 8, .int .i64 20, .int .i64 8, .int .i64 0] 2) = v25 at Q25 ⊢
      generalize w15.heap.size = lb25 at *
      refine hK.out _ _ ?_ (fun hHeld25 => ?_)
      · exact ⟨((unhide Q25).at' 1 _ rfl).cell 0 _ rfl, ((unhide Q25).at' 1 _ rfl).cell 1 _ rfl, ((unhide Q25).at' 1 _ rfl).cell 2 _ rfl⟩
      clear hK K
      refine wpAnyH_ready (rs := [1, 8]) (by kernel_rfl) (by simp) ?_
      refine (AllReadyH.cons rfl (fun K hK => ?_) (AllReadyH.cons rfl (fun K hK => ?_) AllReadyH.nil))
      · go_simp
        have Q26 := hide ((unhide Q25).alloc [.int .i64 10, .int .i64 10, .int .i64 40, .int .i64 256] 2)
        have hlw26 := ((unhide Q25).at' 1 _ rfl).lt
        have hls26 := ((unhide Q25).at' 0 _ rfl).lt
        generalize v25.alloc (.cells #[.int .i64 10, .int .i64 10, .int .i64 40, .int .i64 256] 2) = v26 at Q26 ⊢
        generalize v25.heap.size = lb26 at *
        refine hK.out _ _ ?_ (fun hHeld26 => ?_)
        · exact ⟨((unhide Q26).at' 2 _ rfl).cell 0 _ rfl, ((unhide Q26).at' 2 _ rfl).cell 1 _ rfl, ((unhide Q26).at' 2 _ rfl).cell 2 _ rfl⟩
        clear hK K
        obtain ⟨za, hza⟩ : ∃ z, litZ [.int .i64 10, .int .i64 10, .int .i64 40, .int .i64 256] i15 = z := ⟨_, rfl⟩
        refine wpAnyH_more (S' := (fun w' => w'.cell? ⟨lb26, i15, none⟩ = some (.int .i64 za) ∧ w'.cell? ⟨fb, 0, none⟩ = some (.int .i64 wd) ∧ w'.cell? ⟨fb, 1, none⟩ = some (.int .i64 ht) ∧ w'.cell? ⟨fb, 2, none⟩ = some (.string s))) (fun _ h => h.2) ⟨lit_cellZ ((unhide Q26).at' 0 _ rfl) (by simp) hi15n hza, ((unhide Q26).at' 2 _ rfl).cell 0 _ rfl, ((unhide Q26).at' 2 _ rfl).cell 1 _ rfl, ((unhide Q26).at' 2 _ rfl).cell 2 _ rfl⟩ (fun hMore26 => ?_)
        refine wpAnyH_take (i := 4) (v := ?_) rfl (by kernel_rfl) (by kernel_rfl) (by kernel_rfl) (fun _ _ _ h => h) (Or.inl ⟨by rfl, ?_⟩) (by assumption) ?_
        rotate_left
        · intro W0 hSw; (try dsimp only at hSw); go_simp <;> with_reducible rfl
        try simp only [Act.put, List.setIfInBounds_toArray, List.set_cons_zero, List.set_cons_succ]
        refine wpAnyH_take (i := 5) (v := ?_) rfl (by kernel_rfl) (by kernel_rfl) (by kernel_rfl) (fun _ _ _ h => h) (Or.inl ⟨by rfl, ?_⟩) (by assumption) ?_
        rotate_left
        · intro W0 hSw; (try dsimp only at hSw); go_simp <;> with_reducible rfl
        try simp only [Act.put, List.setIfInBounds_toArray, List.set_cons_zero, List.set_cons_succ]
        refine wpAnyH_ready (rs := [8]) (by kernel_rfl) (by simp) ?_
        refine (AllReadyH.cons rfl (fun K hK => ?_) AllReadyH.nil)
        go_simp
        refine (n_any sb 4 _ (unhide Q26).src (by omega)).mono ?_
        rintro e w27 ⟨k27, rfl, hk27a, hk27b, _, hS27, hg27⟩
        have Q27 := hide ((unhide Q26).call hS27 hg27)
        clear hS27 hg27
        obtain ⟨i27, hi27⟩ := Int.eq_ofNat_of_zero_le hk27a
        have hk27c := hk27b (by omega)
        subst hi27
        have hi27n : i27 < 4 := by omega
        have hi27m : (i27 : Int) < 4 := by omega
        refine hK.out _ _ ?_ (fun hHeld27 => ?_)
        · exact ⟨lit_cellZ ((unhide Q27).at' 0 _ rfl) (by simp) hi15n hza, ((unhide Q27).at' 2 _ rfl).cell 0 _ rfl, ((unhide Q27).at' 2 _ rfl).cell 1 _ rfl, ((unhide Q27).at' 2 _ rfl).cell 2 _ rfl⟩
        clear hK K
        obtain ⟨zb, hzb⟩ : ∃ z, litZ [.int .i64 8, .int .i64 20, .int .i64 8, .int .i64 0] i27 = z := ⟨_, rfl⟩
        refine wpAnyH_more (S' := (fun w' => w'.cell? ⟨lb25, i27, none⟩ = some (.int .i64 zb) ∧ w'.cell? ⟨lb26, i15, none⟩ = some (.int .i64 za) ∧ w'.cell? ⟨fb, 0, none⟩ = some (.int .i64 wd) ∧ w'.cell? ⟨fb, 1, none⟩ = some (.int .i64 ht) ∧ w'.cell? ⟨fb, 2, none⟩ = some (.string s))) (fun _ h => h.2) ⟨lit_cellZ ((unhide Q27).at' 1 _ rfl) (by simp) hi27n hzb, lit_cellZ ((unhide Q27).at' 0 _ rfl) (by simp) hi15n hza, ((unhide Q27).at' 2 _ rfl).cell 0 _ rfl, ((unhide Q27).at' 2 _ rfl).cell 1 _ rfl, ((unhide Q27).at' 2 _ rfl).cell 2 _ rfl⟩ (fun hMore27 => ?_)
        refine wpAnyH_take (i := 9) (v := ?_) rfl (by kernel_rfl) (by kernel_rfl) (by kernel_rfl) (fun _ _ _ h => h) (Or.inl ⟨by rfl, ?_⟩) (by assumption) ?_
        rotate_left
        · intro W0 hSw; (try dsimp only at hSw); go_simp <;> with_reducible rfl
        try simp only [Act.put, List.setIfInBounds_toArray, List.set_cons_zero, List.set_cons_succ]
        refine wpAnyH_take (i := 10) (v := ?_) rfl (by kernel_rfl) (by kernel_rfl) (by kernel_rfl) (fun _ _ _ h => h) (Or.inl ⟨by rfl, ?_⟩) (by assumption) ?_
        rotate_left
        · intro W0 hSw; (try dsimp only at hSw); go_simp <;> with_reducible rfl
        try simp only [Act.put, List.setIfInBounds_toArray, List.set_cons_zero, List.set_cons_succ]
        refine wpAnyH_ready (rs := [11]) (by kernel_rfl) (by simp) ?_
        refine (AllReadyH.cons rfl (fun K hK => ?_) AllReadyH.nil)
        have r28_0 := ((unhide Q27).at' 3 _ rfl).cell 0 _ rfl
        have r28_1 := ((unhide Q27).at' 3 _ rfl).cell 1 _ rfl
        have r28_2 := ((unhide Q27).at' 3 _ rfl).cell 2 _ rfl
        have x28_0 := ((unhide Q27).at' 3 _ rfl).free 0
        have x28_1 := ((unhide Q27).at' 3 _ rfl).free 1
        have x28_2 := ((unhide Q27).at' 3 _ rfl).free 2
        have hne28 : ∀ x ∈ ([(lb26, [.int .i64 10, .int .i64 10, .int .i64 40, .int .i64 256], 2), (lb25, [.int .i64 8, .int .i64 20, .int .i64 8, .int .i64 0], 2), (fb, [.int .i64 wd, .int .i64 ht, .string s], 24)] : List (Nat × List Value × TypeId)), x.1 ≠ w.heap.size := by simp; omega
        have Q28 := hide (((((unhide Q27).db.pick (bs' := (w.heap.size, [.int .i64 0, .int .i64 0, .string ⟨#[]⟩], 24) :: [(lb26, [.int .i64 10, .int .i64 10, .int .i64 40, .int .i64 256], 2), (lb25, [.int .i64 8, .int .i64 20, .int .i64 8, .int .i64 0], 2), (fb, [.int .i64 wd, .int .i64 ht, .string s], 24)]) (by intro x hx; simp only [List.mem_cons, List.not_mem_nil, or_false] at hx; rcases hx with rfl | rfl | rfl | rfl <;> simp)).set hne28 0 (.int .i64 wd)).set hne28 1 (.int .i64 ht)).set hne28 2 (.string s))
        go_simp
        clear r28_0 x28_0 r28_1 x28_1 r28_2 x28_2
        generalize (((w27.setCell ⟨w.heap.size, 0, none⟩ (.int .i64 wd)).setCell ⟨w.heap.size, 1, none⟩ (.int .i64 ht)).setCell ⟨w.heap.size, 2, none⟩ (.string s)) = u28 at Q28 ⊢
        refine hK.out _ _ ?_ (fun hHeld28 => ?_)
        · exact ⟨lit_cellZ ((unhide Q28).at' 2 _ rfl) (by simp) hi27n hzb, lit_cellZ ((unhide Q28).at' 1 _ rfl) (by simp) hi15n hza, ((unhide Q28).at' 3 _ rfl).cell 0 _ rfl, ((unhide Q28).at' 3 _ rfl).cell 1 _ rfl, ((unhide Q28).at' 3 _ rfl).cell 2 _ rfl⟩
        clear hK K
        refine wpAnyH_take (i := 12) (v := ?_) rfl (by kernel_rfl) (by kernel_rfl) (by kernel_rfl) (fun _ _ _ h => h) (Or.inl ⟨by rfl, ?_⟩) (by assumption) ?_
        rotate_left
        · intro W0 hSw; (try dsimp only at hSw); go_simp <;> with_reducible rfl
        try simp only [Act.put, List.setIfInBounds_toArray, List.set_cons_zero, List.set_cons_succ]
        refine wpAnyH_take (i := 13) (v := ?_) rfl (by kernel_rfl) (by kernel_rfl) (by kernel_rfl) (fun _ _ _ h => h) (Or.inl ⟨by rfl, ?_⟩) (by assumption) ?_
        rotate_left
        · intro W0 hSw; (try dsimp only at hSw); go_simp <;> with_reducible rfl
        try simp only [Act.put, List.setIfInBounds_toArray, List.set_cons_zero, List.set_cons_succ]
        refine wpAnyH_done (by kernel_rfl) ?_ _
        have y0_0 := ((unhide Q28).at' 0 _ rfl).cell 0 _ rfl
        have y0_1 := ((unhide Q28).at' 0 _ rfl).cell 1 _ rfl
        have y0_2 := ((unhide Q28).at' 0 _ rfl).cell 2 _ rfl
        go_wp2_with fail
        exact bodyPost_ret (v := .tuple #[.agg #[.int .i64 wd, .int .i64 ht, .string s], .int .i64 za, .int .i64 zb]) (by simp [results, Try.results19, go_sem, y0_0, y0_1, y0_2]) rfl ⟨⟨_, _, _, hs, _, _, rfl⟩, (unhide Q28).bel⟩
      · go_simp
        refine (n_any sb 4 _ (unhide Q25).src (by omega)).mono ?_
        rintro e w29 ⟨k29, rfl, hk29a, hk29b, _, hS29, hg29⟩
        have Q29 := hide ((unhide Q25).call hS29 hg29)
        clear hS29 hg29
        obtain ⟨i29, hi29⟩ := Int.eq_ofNat_of_zero_le hk29a
        have hk29c := hk29b (by omega)
        subst hi29
        have hi29n : i29 < 4 := by omega
        have hi29m : (i29 : Int) < 4 := by omega
        refine hK.out _ _ ?_ (fun hHeld29 => ?_)
        · exact ⟨((unhide Q29).at' 1 _ rfl).cell 0 _ rfl, ((unhide Q29).at' 1 _ rfl).cell 1 _ rfl, ((unhide Q29).at' 1 _ rfl).cell 2 _ rfl⟩
        clear hK K
        obtain ⟨zb, hzb⟩ : ∃ z, litZ [.int .i64 8, .int .i64 20, .int .i64 8, .int .i64 0] i29 = z := ⟨_, rfl⟩
        refine wpAnyH_more (S' := (fun w' => w'.cell? ⟨lb25, i29, none⟩ = some (.int .i64 zb) ∧ w'.cell? ⟨fb, 0, none⟩ = some (.int .i64 wd) ∧ w'.cell? ⟨fb, 1, none⟩ = some (.int .i64 ht) ∧ w'.cell? ⟨fb, 2, none⟩ = some (.string s))) (fun _ h => h.2) ⟨lit_cellZ ((unhide Q29).at' 0 _ rfl) (by simp) hi29n hzb, ((unhide Q29).at' 1 _ rfl).cell 0 _ rfl, ((unhide Q29).at' 1 _ rfl).cell 1 _ rfl, ((unhide Q29).at' 1 _ rfl).cell 2 _ rfl⟩ (fun hMore29 => ?_)
        refine wpAnyH_take (i := 9) (v := ?_) rfl (by kernel_rfl) (by kernel_rfl) (by kernel_rfl) (fun _ _ _ h => h) (Or.inl ⟨by rfl, ?_⟩) (by assumption) ?_
        rotate_left
        · intro W0 hSw; (try dsimp only at hSw); go_simp <;> with_reducible rfl
        try simp only [Act.put, List.setIfInBounds_toArray, List.set_cons_zero, List.set_cons_succ]
        refine wpAnyH_take (i := 10) (v := ?_) rfl (by kernel_rfl) (by kernel_rfl) (by kernel_rfl) (fun _ _ _ h => h) (Or.inl ⟨by rfl, ?_⟩) (by assumption) ?_
        rotate_left
        · intro W0 hSw; (try dsimp only at hSw); go_simp <;> with_reducible rfl
        try simp only [Act.put, List.setIfInBounds_toArray, List.set_cons_zero, List.set_cons_succ]
        refine wpAnyH_ready (rs := [1, 11]) (by kernel_rfl) (by simp) ?_
        refine (AllReadyH.cons rfl (fun K hK => ?_) (AllReadyH.cons rfl (fun K hK => ?_) AllReadyH.nil))
        · go_simp
          have Q30 := hide ((unhide Q29).alloc [.int .i64 10, .int .i64 10, .int .i64 40, .int .i64 256] 2)
          have hlw30 := ((unhide Q29).at' 1 _ rfl).lt
          have hls30 := ((unhide Q29).at' 0 _ rfl).lt
          generalize w29.alloc (.cells #[.int .i64 10, .int .i64 10, .int .i64 40, .int .i64 256] 2) = v30 at Q30 ⊢
          generalize w29.heap.size = lb30 at *
          refine hK.out _ _ ?_ (fun hHeld30 => ?_)
          · exact ⟨lit_cellZ ((unhide Q30).at' 1 _ rfl) (by simp) hi29n hzb, ((unhide Q30).at' 2 _ rfl).cell 0 _ rfl, ((unhide Q30).at' 2 _ rfl).cell 1 _ rfl, ((unhide Q30).at' 2 _ rfl).cell 2 _ rfl⟩
          clear hK K
          obtain ⟨za, hza⟩ : ∃ z, litZ [.int .i64 10, .int .i64 10, .int .i64 40, .int .i64 256] i15 = z := ⟨_, rfl⟩
          refine wpAnyH_more (S' := (fun w' => w'.cell? ⟨lb30, i15, none⟩ = some (.int .i64 za) ∧ w'.cell? ⟨lb25, i29, none⟩ = some (.int .i64 zb) ∧ w'.cell? ⟨fb, 0, none⟩ = some (.int .i64 wd) ∧ w'.cell? ⟨fb, 1, none⟩ = some (.int .i64 ht) ∧ w'.cell? ⟨fb, 2, none⟩ = some (.string s))) (fun _ h => h.2) ⟨lit_cellZ ((unhide Q30).at' 0 _ rfl) (by simp) hi15n hza, lit_cellZ ((unhide Q30).at' 1 _ rfl) (by simp) hi29n hzb, ((unhide Q30).at' 2 _ rfl).cell 0 _ rfl, ((unhide Q30).at' 2 _ rfl).cell 1 _ rfl, ((unhide Q30).at' 2 _ rfl).cell 2 _ rfl⟩ (fun hMore30 => ?_)
          refine wpAnyH_take (i := 4) (v := ?_) rfl (by kernel_rfl) (by kernel_rfl) (by kernel_rfl) (fun _ _ _ h => h) (Or.inl ⟨by rfl, ?_⟩) (by assumption) ?_
          rotate_left
          · intro W0 hSw; (try dsimp only at hSw); go_simp <;> with_reducible rfl
          try simp only [Act.put, List.setIfInBounds_toArray, List.set_cons_zero, List.set_cons_succ]
          refine wpAnyH_take (i := 5) (v := ?_) rfl (by kernel_rfl) (by kernel_rfl) (by kernel_rfl) (fun _ _ _ h => h) (Or.inl ⟨by rfl, ?_⟩) (by assumption) ?_
          rotate_left
          · intro W0 hSw; (try dsimp only at hSw); go_simp <;> with_reducible rfl
          try simp only [Act.put, List.setIfInBounds_toArray, List.set_cons_zero, List.set_cons_succ]
          refine wpAnyH_ready (rs := [11]) (by kernel_rfl) (by simp) ?_
          refine (AllReadyH.cons rfl (fun K hK => ?_) AllReadyH.nil)
          have r31_0 := ((unhide Q30).at' 3 _ rfl).cell 0 _ rfl
          have r31_1 := ((unhide Q30).at' 3 _ rfl).cell 1 _ rfl
          have r31_2 := ((unhide Q30).at' 3 _ rfl).cell 2 _ rfl
          have x31_0 := ((unhide Q30).at' 3 _ rfl).free 0
          have x31_1 := ((unhide Q30).at' 3 _ rfl).free 1
          have x31_2 := ((unhide Q30).at' 3 _ rfl).free 2
          have hne31 : ∀ x ∈ ([(lb30, [.int .i64 10, .int .i64 10, .int .i64 40, .int .i64 256], 2), (lb25, [.int .i64 8, .int .i64 20, .int .i64 8, .int .i64 0], 2), (fb, [.int .i64 wd, .int .i64 ht, .string s], 24)] : List (Nat × List Value × TypeId)), x.1 ≠ w.heap.size := by simp; omega
          have Q31 := hide (((((unhide Q30).db.pick (bs' := (w.heap.size, [.int .i64 0, .int .i64 0, .string ⟨#[]⟩], 24) :: [(lb30, [.int .i64 10, .int .i64 10, .int .i64 40, .int .i64 256], 2), (lb25, [.int .i64 8, .int .i64 20, .int .i64 8, .int .i64 0], 2), (fb, [.int .i64 wd, .int .i64 ht, .string s], 24)]) (by intro x hx; simp only [List.mem_cons, List.not_mem_nil, or_false] at hx; rcases hx with rfl | rfl | rfl | rfl <;> simp)).set hne31 0 (.int .i64 wd)).set hne31 1 (.int .i64 ht)).set hne31 2 (.string s))
          go_simp
          clear r31_0 x31_0 r31_1 x31_1 r31_2 x31_2
          generalize (((v30.setCell ⟨w.heap.size, 0, none⟩ (.int .i64 wd)).setCell ⟨w.heap.size, 1, none⟩ (.int .i64 ht)).setCell ⟨w.heap.size, 2, none⟩ (.string s)) = u31 at Q31 ⊢
          refine hK.out _ _ ?_ (fun hHeld31 => ?_)
          · exact ⟨lit_cellZ ((unhide Q31).at' 1 _ rfl) (by simp) hi15n hza, lit_cellZ ((unhide Q31).at' 2 _ rfl) (by simp) hi29n hzb, ((unhide Q31).at' 3 _ rfl).cell 0 _ rfl, ((unhide Q31).at' 3 _ rfl).cell 1 _ rfl, ((unhide Q31).at' 3 _ rfl).cell 2 _ rfl⟩
          clear hK K
          refine wpAnyH_take (i := 12) (v := ?_) rfl (by kernel_rfl) (by kernel_rfl) (by kernel_rfl) (fun _ _ _ h => h) (Or.inl ⟨by rfl, ?_⟩) (by assumption) ?_
          rotate_left
          · intro W0 hSw; (try dsimp only at hSw); go_simp <;> with_reducible rfl
          try simp only [Act.put, List.setIfInBounds_toArray, List.set_cons_zero, List.set_cons_succ]
          refine wpAnyH_take (i := 13) (v := ?_) rfl (by kernel_rfl) (by kernel_rfl) (by kernel_rfl) (fun _ _ _ h => h) (Or.inl ⟨by rfl, ?_⟩) (by assumption) ?_
          rotate_left
          · intro W0 hSw; (try dsimp only at hSw); go_simp <;> with_reducible rfl
          try simp only [Act.put, List.setIfInBounds_toArray, List.set_cons_zero, List.set_cons_succ]
          refine wpAnyH_done (by kernel_rfl) ?_ _
          have y0_0 := ((unhide Q31).at' 0 _ rfl).cell 0 _ rfl
          have y0_1 := ((unhide Q31).at' 0 _ rfl).cell 1 _ rfl
          have y0_2 := ((unhide Q31).at' 0 _ rfl).cell 2 _ rfl
          go_wp2_with fail
          exact bodyPost_ret (v := .tuple #[.agg #[.int .i64 wd, .int .i64 ht, .string s], .int .i64 za, .int .i64 zb]) (by simp [results, Try.results19, go_sem, y0_0, y0_1, y0_2]) rfl ⟨⟨_, _, _, hs, _, _, rfl⟩, (unhide Q31).bel⟩
        · have r32_0 := ((unhide Q29).at' 2 _ rfl).cell 0 _ rfl
          have r32_1 := ((unhide Q29).at' 2 _ rfl).cell 1 _ rfl
          have r32_2 := ((unhide Q29).at' 2 _ rfl).cell 2 _ rfl
          have x32_0 := ((unhide Q29).at' 2 _ rfl).free 0
          have x32_1 := ((unhide Q29).at' 2 _ rfl).free 1
          have x32_2 := ((unhide Q29).at' 2 _ rfl).free 2
          have hne32 : ∀ x ∈ ([(lb25, [.int .i64 8, .int .i64 20, .int .i64 8, .int .i64 0], 2), (fb, [.int .i64 wd, .int .i64 ht, .string s], 24)] : List (Nat × List Value × TypeId)), x.1 ≠ w.heap.size := by simp; omega
          have Q32 := hide (((((unhide Q29).db.pick (bs' := (w.heap.size, [.int .i64 0, .int .i64 0, .string ⟨#[]⟩], 24) :: [(lb25, [.int .i64 8, .int .i64 20, .int .i64 8, .int .i64 0], 2), (fb, [.int .i64 wd, .int .i64 ht, .string s], 24)]) (by intro x hx; simp only [List.mem_cons, List.not_mem_nil, or_false] at hx; rcases hx with rfl | rfl | rfl <;> simp)).set hne32 0 (.int .i64 wd)).set hne32 1 (.int .i64 ht)).set hne32 2 (.string s))
          go_simp
          clear r32_0 x32_0 r32_1 x32_1 r32_2 x32_2
          generalize (((w29.setCell ⟨w.heap.size, 0, none⟩ (.int .i64 wd)).setCell ⟨w.heap.size, 1, none⟩ (.int .i64 ht)).setCell ⟨w.heap.size, 2, none⟩ (.string s)) = u32 at Q32 ⊢
          refine hK.out _ _ ?_ (fun hHeld32 => ?_)
          · exact ⟨lit_cellZ ((unhide Q32).at' 1 _ rfl) (by simp) hi29n hzb, ((unhide Q32).at' 2 _ rfl).cell 0 _ rfl, ((unhide Q32).at' 2 _ rfl).cell 1 _ rfl, ((unhide Q32).at' 2 _ rfl).cell 2 _ rfl⟩
          clear hK K
          refine wpAnyH_ready (rs := [1]) (by kernel_rfl) (by simp) ?_
          refine (AllReadyH.cons rfl (fun K hK => ?_) AllReadyH.nil)
          go_simp
          have Q33 := hide ((unhide Q32).alloc [.int .i64 10, .int .i64 10, .int .i64 40, .int .i64 256] 2)
          have hlw33 := ((unhide Q32).at' 2 _ rfl).lt
          have hls33 := ((unhide Q32).at' 1 _ rfl).lt
          generalize u32.alloc (.cells #[.int .i64 10, .int .i64 10, .int .i64 40, .int .i64 256] 2) = v33 at Q33 ⊢
          generalize u32.heap.size = lb33 at *
          refine hK.out _ _ ?_ (fun hHeld33 => ?_)
          · exact ⟨lit_cellZ ((unhide Q33).at' 2 _ rfl) (by simp) hi29n hzb, ((unhide Q33).at' 3 _ rfl).cell 0 _ rfl, ((unhide Q33).at' 3 _ rfl).cell 1 _ rfl, ((unhide Q33).at' 3 _ rfl).cell 2 _ rfl⟩
          clear hK K
          obtain ⟨za, hza⟩ : ∃ z, litZ [.int .i64 10, .int .i64 10, .int .i64 40, .int .i64 256] i15 = z := ⟨_, rfl⟩
          refine wpAnyH_more (S' := (fun w' => w'.cell? ⟨lb33, i15, none⟩ = some (.int .i64 za) ∧ w'.cell? ⟨lb25, i29, none⟩ = some (.int .i64 zb) ∧ w'.cell? ⟨fb, 0, none⟩ = some (.int .i64 wd) ∧ w'.cell? ⟨fb, 1, none⟩ = some (.int .i64 ht) ∧ w'.cell? ⟨fb, 2, none⟩ = some (.string s))) (fun _ h => h.2) ⟨lit_cellZ ((unhide Q33).at' 0 _ rfl) (by simp) hi15n hza, lit_cellZ ((unhide Q33).at' 2 _ rfl) (by simp) hi29n hzb, ((unhide Q33).at' 3 _ rfl).cell 0 _ rfl, ((unhide Q33).at' 3 _ rfl).cell 1 _ rfl, ((unhide Q33).at' 3 _ rfl).cell 2 _ rfl⟩ (fun hMore33 => ?_)
          refine wpAnyH_take (i := 4) (v := ?_) rfl (by kernel_rfl) (by kernel_rfl) (by kernel_rfl) (fun _ _ _ h => h) (Or.inl ⟨by rfl, ?_⟩) (by assumption) ?_
          rotate_left
          · intro W0 hSw; (try dsimp only at hSw); go_simp <;> with_reducible rfl
          try simp only [Act.put, List.setIfInBounds_toArray, List.set_cons_zero, List.set_cons_succ]
          refine wpAnyH_take (i := 5) (v := ?_) rfl (by kernel_rfl) (by kernel_rfl) (by kernel_rfl) (fun _ _ _ h => h) (Or.inl ⟨by rfl, ?_⟩) (by assumption) ?_
          rotate_left
          · intro W0 hSw; (try dsimp only at hSw); go_simp <;> with_reducible rfl
          try simp only [Act.put, List.setIfInBounds_toArray, List.set_cons_zero, List.set_cons_succ]
          refine wpAnyH_take (i := 12) (v := ?_) rfl (by kernel_rfl) (by kernel_rfl) (by kernel_rfl) (fun _ _ _ h => h) (Or.inl ⟨by rfl, ?_⟩) (by assumption) ?_
          rotate_left
          · intro W0 hSw; (try dsimp only at hSw); go_simp <;> with_reducible rfl
          try simp only [Act.put, List.setIfInBounds_toArray, List.set_cons_zero, List.set_cons_succ]
          refine wpAnyH_take (i := 13) (v := ?_) rfl (by kernel_rfl) (by kernel_rfl) (by kernel_rfl) (fun _ _ _ h => h) (Or.inl ⟨by rfl, ?_⟩) (by assumption) ?_
          rotate_left
          · intro W0 hSw; (try dsimp only at hSw); go_simp <;> with_reducible rfl
          try simp only [Act.put, List.setIfInBounds_toArray, List.set_cons_zero, List.set_cons_succ]
          refine wpAnyH_done (by kernel_rfl) ?_ _
          have y0_0 := ((unhide Q33).at' 1 _ rfl).cell 0 _ rfl
          have y0_1 := ((unhide Q33).at' 1 _ rfl).cell 1 _ rfl
          have y0_2 := ((unhide Q33).at' 1 _ rfl).cell 2 _ rfl
          go_wp2_with fail
          exact bodyPost_ret (v := .tuple #[.agg #[.int .i64 wd, .int .i64 ht, .string s], .int .i64 za, .int .i64 zb]) (by simp [results, Try.results19, go_sem, y0_0, y0_1, y0_2]) rfl ⟨⟨_, _, _, hs, _, _, rfl⟩, (unhide Q33).bel⟩
    · go_simp
      refine (n_any sb 4 _ (unhide Q15).src (by omega)).mono ?_
      rintro e w34 ⟨k34, rfl, hk34a, hk34b, _, hS34, hg34⟩
      have Q34 := hide ((unhide Q15).call hS34 hg34)
      clear hS34 hg34
      obtain ⟨i34, hi34⟩ := Int.eq_ofNat_of_zero_le hk34a
      have hk34c := hk34b (by omega)
      subst hi34
      have hi34n : i34 < 4 := by omega
      have hi34m : (i34 : Int) < 4 := by omega
      refine hK.out _ _ ?_ (fun hHeld34 => ?_)
      · exact ⟨((unhide Q34).at' 0 _ rfl).cell 0 _ rfl, ((unhide Q34).at' 0 _ rfl).cell 1 _ rfl, ((unhide Q34).at' 0 _ rfl).cell 2 _ rfl⟩
      clear hK K
      refine wpAnyH_ready (rs := [1, 6, 11]) (by kernel_rfl) (by simp) ?_
      refine (AllReadyH.cons rfl (fun K hK => ?_) (AllReadyH.cons rfl (fun K hK => ?_) (AllReadyH.cons rfl (fun K hK => ?_) AllReadyH.nil)))
      · go_simp
        have Q35 := hide ((unhide Q34).alloc [.int .i64 10, .int .i64 10, .int .i64 40, .int .i64 256] 2)
        have hlw35 := ((unhide Q34).at' 0 _ rfl).lt
        generalize w34.alloc (.cells #[.int .i64 10, .int .i64 10, .int .i64 40, .int .i64 256] 2) = v35 at Q35 ⊢
        generalize w34.heap.size = lb35 at *
        refine hK.out _ _ ?_ (fun hHeld35 => ?_)
        · exact ⟨((unhide Q35).at' 1 _ rfl).cell 0 _ rfl, ((unhide Q35).at' 1 _ rfl).cell 1 _ rfl, ((unhide Q35).at' 1 _ rfl).cell 2 _ rfl⟩
        clear hK K
        obtain ⟨za, hza⟩ : ∃ z, litZ [.int .i64 10, .int .i64 10, .int .i64 40, .int .i64 256] i15 = z := ⟨_, rfl⟩
        refine wpAnyH_more (S' := (fun w' => w'.cell? ⟨lb35, i15, none⟩ = some (.int .i64 za) ∧ w'.cell? ⟨fb, 0, none⟩ = some (.int .i64 wd) ∧ w'.cell? ⟨fb, 1, none⟩ = some (.int .i64 ht) ∧ w'.cell? ⟨fb, 2, none⟩ = some (.string s))) (fun _ h => h.2) ⟨lit_cellZ ((unhide Q35).at' 0 _ rfl) (by simp) hi15n hza, ((unhide Q35).at' 1 _ rfl).cell 0 _ rfl, ((unhide Q35).at' 1 _ rfl).cell 1 _ rfl, ((unhide Q35).at' 1 _ rfl).cell 2 _ rfl⟩ (fun hMore35 => ?_)
        refine wpAnyH_take (i := 4) (v := ?_) rfl (by kernel_rfl) (by kernel_rfl) (by kernel_rfl) (fun _ _ _ h => h) (Or.inl ⟨by rfl, ?_⟩) (by assumption) ?_
        rotate_left
        · intro W0 hSw; (try dsimp only at hSw); go_simp <;> with_reducible rfl
        try simp only [Act.put, List.setIfInBounds_toArray, List.set_cons_zero, List.set_cons_succ]
        refine wpAnyH_take (i := 5) (v := ?_) rfl (by kernel_rfl) (by kernel_rfl) (by kernel_rfl) (fun _ _ _ h => h) (Or.inl ⟨by rfl, ?_⟩) (by assumption) ?_
        rotate_left
        · intro W0 hSw; (try dsimp only at hSw); go_simp <;> with_reducible rfl
        try simp only [Act.put, List.setIfInBounds_toArray, List.set_cons_zero, List.set_cons_succ]
        refine wpAnyH_ready (rs := [6, 11]) (by kernel_rfl) (by simp) ?_
        refine (AllReadyH.cons rfl (fun K hK => ?_) (AllReadyH.cons rfl (fun K hK => ?_) AllReadyH.nil))
        · go_simp
          have Q36 := hide ((unhide Q35).alloc [.int .i64 8, .int .i64 20, .int .i64 8, .int .i64 0] 2)
          have hlw36 := ((unhide Q35).at' 1 _ rfl).lt
          have hls36 := ((unhide Q35).at' 0 _ rfl).lt
          generalize v35.alloc (.cells #[.int .i64 8, .int .i64 20, .int .i64 8, .int .i64 0] 2) = v36 at Q36 ⊢
          generalize v35.heap.size = lb36 at *
          refine hK.out _ _ ?_ (fun hHeld36 => ?_)
          · exact ⟨lit_cellZ ((unhide Q36).at' 1 _ rfl) (by simp) hi15n hza, ((unhide Q36).at' 2 _ rfl).cell 0 _ rfl, ((unhide Q36).at' 2 _ rfl).cell 1 _ rfl, ((unhide Q36).at' 2 _ rfl).cell 2 _ rfl⟩
          clear hK K
          obtain ⟨zb, hzb⟩ : ∃ z, litZ [.int .i64 8, .int .i64 20, .int .i64 8, .int .i64 0] i34 = z := ⟨_, rfl⟩
          refine wpAnyH_more (S' := (fun w' => w'.cell? ⟨lb36, i34, none⟩ = some (.int .i64 zb) ∧ w'.cell? ⟨lb35, i15, none⟩ = some (.int .i64 za) ∧ w'.cell? ⟨fb, 0, none⟩ = some (.int .i64 wd) ∧ w'.cell? ⟨fb, 1, none⟩ = some (.int .i64 ht) ∧ w'.cell? ⟨fb, 2, none⟩ = some (.string s))) (fun _ h => h.2) ⟨lit_cellZ ((unhide Q36).at' 0 _ rfl) (by simp) hi34n hzb, lit_cellZ ((unhide Q36).at' 1 _ rfl) (by simp) hi15n hza, ((unhide Q36).at' 2 _ rfl).cell 0 _ rfl, ((unhide Q36).at' 2 _ rfl).cell 1 _ rfl, ((unhide Q36).at' 2 _ rfl).cell 2 _ rfl⟩ (fun hMore36 => ?_)
          refine wpAnyH_take (i := 9) (v := ?_) rfl (by kernel_rfl) (by kernel_rfl) (by kernel_rfl) (fun _ _ _ h => h) (Or.inl ⟨by rfl, ?_⟩) (by assumption) ?_
          rotate_left
          · intro W0 hSw; (try dsimp only at hSw); go_simp <;> with_reducible rfl
          try simp only [Act.put, List.setIfInBounds_toArray, List.set_cons_zero, List.set_cons_succ]
          refine wpAnyH_take (i := 10) (v := ?_) rfl (by kernel_rfl) (by kernel_rfl) (by kernel_rfl) (fun _ _ _ h => h) (Or.inl ⟨by rfl, ?_⟩) (by assumption) ?_
          rotate_left
          · intro W0 hSw; (try dsimp only at hSw); go_simp <;> with_reducible rfl
          try simp only [Act.put, List.setIfInBounds_toArray, List.set_cons_zero, List.set_cons_succ]
          refine wpAnyH_ready (rs := [11]) (by kernel_rfl) (by simp) ?_
          refine (AllReadyH.cons rfl (fun K hK => ?_) AllReadyH.nil)
          have r37_0 := ((unhide Q36).at' 3 _ rfl).cell 0 _ rfl
          have r37_1 := ((unhide Q36).at' 3 _ rfl).cell 1 _ rfl
          have r37_2 := ((unhide Q36).at' 3 _ rfl).cell 2 _ rfl
          have x37_0 := ((unhide Q36).at' 3 _ rfl).free 0
          have x37_1 := ((unhide Q36).at' 3 _ rfl).free 1
          have x37_2 := ((unhide Q36).at' 3 _ rfl).free 2
          have hne37 : ∀ x ∈ ([(lb36, [.int .i64 8, .int .i64 20, .int .i64 8, .int .i64 0], 2), (lb35, [.int .i64 10, .int .i64 10, .int .i64 40, .int .i64 256], 2), (fb, [.int .i64 wd, .int .i64 ht, .string s], 24)] : List (Nat × List Value × TypeId)), x.1 ≠ w.heap.size := by simp; omega
          have Q37 := hide (((((unhide Q36).db.pick (bs' := (w.heap.size, [.int .i64 0, .int .i64 0, .string ⟨#[]⟩], 24) :: [(lb36, [.int .i64 8, .int .i64 20, .int .i64 8, .int .i64 0], 2), (lb35, [.int .i64 10, .int .i64 10, .int .i64 40, .int .i64 256], 2), (fb, [.int .i64 wd, .int .i64 ht, .string s], 24)]) (by intro x hx; simp only [List.mem_cons, List.not_mem_nil, or_false] at hx; rcases hx with rfl | rfl | rfl | rfl <;> simp)).set hne37 0 (.int .i64 wd)).set hne37 1 (.int .i64 ht)).set hne37 2 (.string s))
          go_simp
          clear r37_0 x37_0 r37_1 x37_1 r37_2 x37_2
          generalize (((v36.setCell ⟨w.heap.size, 0, none⟩ (.int .i64 wd)).setCell ⟨w.heap.size, 1, none⟩ (.int .i64 ht)).setCell ⟨w.heap.size, 2, none⟩ (.string s)) = u37 at Q37 ⊢
          refine hK.out _ _ ?_ (fun hHeld37 => ?_)
          · exact ⟨lit_cellZ ((unhide Q37).at' 1 _ rfl) (by simp) hi34n hzb, lit_cellZ ((unhide Q37).at' 2 _ rfl) (by simp) hi15n hza, ((unhide Q37).at' 3 _ rfl).cell 0 _ rfl, ((unhide Q37).at' 3 _ rfl).cell 1 _ rfl, ((unhide Q37).at' 3 _ rfl).cell 2 _ rfl⟩
          clear hK K
          refine wpAnyH_take (i := 12) (v := ?_) rfl (by kernel_rfl) (by kernel_rfl) (by kernel_rfl) (fun _ _ _ h => h) (Or.inl ⟨by rfl, ?_⟩) (by assumption) ?_
          rotate_left
          · intro W0 hSw; (try dsimp only at hSw); go_simp <;> with_reducible rfl
          try simp only [Act.put, List.setIfInBounds_toArray, List.set_cons_zero, List.set_cons_succ]
          refine wpAnyH_take (i := 13) (v := ?_) rfl (by kernel_rfl) (by kernel_rfl) (by kernel_rfl) (fun _ _ _ h => h) (Or.inl ⟨by rfl, ?_⟩) (by assumption) ?_
          rotate_left
          · intro W0 hSw; (try dsimp only at hSw); go_simp <;> with_reducible rfl
          try simp only [Act.put, List.setIfInBounds_toArray, List.set_cons_zero, List.set_cons_succ]
          refine wpAnyH_done (by kernel_rfl) ?_ _
          have y0_0 := ((unhide Q37).at' 0 _ rfl).cell 0 _ rfl
          have y0_1 := ((unhide Q37).at' 0 _ rfl).cell 1 _ rfl
          have y0_2 := ((unhide Q37).at' 0 _ rfl).cell 2 _ rfl
          go_wp2_with fail
          exact bodyPost_ret (v := .tuple #[.agg #[.int .i64 wd, .int .i64 ht, .string s], .int .i64 za, .int .i64 zb]) (by simp [results, Try.results19, go_sem, y0_0, y0_1, y0_2]) rfl ⟨⟨_, _, _, hs, _, _, rfl⟩, (unhide Q37).bel⟩
        · have r38_0 := ((unhide Q35).at' 2 _ rfl).cell 0 _ rfl
          have r38_1 := ((unhide Q35).at' 2 _ rfl).cell 1 _ rfl
          have r38_2 := ((unhide Q35).at' 2 _ rfl).cell 2 _ rfl
          have x38_0 := ((unhide Q35).at' 2 _ rfl).free 0
          have x38_1 := ((unhide Q35).at' 2 _ rfl).free 1
          have x38_2 := ((unhide Q35).at' 2 _ rfl).free 2
          have hne38 : ∀ x ∈ ([(lb35, [.int .i64 10, .int .i64 10, .int .i64 40, .int .i64 256], 2), (fb, [.int .i64 wd, .int .i64 ht, .string s], 24)] : List (Nat × List Value × TypeId)), x.1 ≠ w.heap.size := by simp; omega
          have Q38 := hide (((((unhide Q35).db.pick (bs' := (w.heap.size, [.int .i64 0, .int .i64 0, .string ⟨#[]⟩], 24) :: [(lb35, [.int .i64 10, .int .i64 10, .int .i64 40, .int .i64 256], 2), (fb, [.int .i64 wd, .int .i64 ht, .string s], 24)]) (by intro x hx; simp only [List.mem_cons, List.not_mem_nil, or_false] at hx; rcases hx with rfl | rfl | rfl <;> simp)).set hne38 0 (.int .i64 wd)).set hne38 1 (.int .i64 ht)).set hne38 2 (.string s))
          go_simp
          clear r38_0 x38_0 r38_1 x38_1 r38_2 x38_2
          generalize (((v35.setCell ⟨w.heap.size, 0, none⟩ (.int .i64 wd)).setCell ⟨w.heap.size, 1, none⟩ (.int .i64 ht)).setCell ⟨w.heap.size, 2, none⟩ (.string s)) = u38 at Q38 ⊢
          refine hK.out _ _ ?_ (fun hHeld38 => ?_)
          · exact ⟨lit_cellZ ((unhide Q38).at' 1 _ rfl) (by simp) hi15n hza, ((unhide Q38).at' 2 _ rfl).cell 0 _ rfl, ((unhide Q38).at' 2 _ rfl).cell 1 _ rfl, ((unhide Q38).at' 2 _ rfl).cell 2 _ rfl⟩
          clear hK K
          refine wpAnyH_take (i := 12) (v := ?_) rfl (by kernel_rfl) (by kernel_rfl) (by kernel_rfl) (fun _ _ _ h => h) (Or.inl ⟨by rfl, ?_⟩) (by assumption) ?_
          rotate_left
          · intro W0 hSw; (try dsimp only at hSw); go_simp <;> with_reducible rfl
          try simp only [Act.put, List.setIfInBounds_toArray, List.set_cons_zero, List.set_cons_succ]
          refine wpAnyH_ready (rs := [6]) (by kernel_rfl) (by simp) ?_
          refine (AllReadyH.cons rfl (fun K hK => ?_) AllReadyH.nil)
          go_simp
          have Q39 := hide ((unhide Q38).alloc [.int .i64 8, .int .i64 20, .int .i64 8, .int .i64 0] 2)
          have hlw39 := ((unhide Q38).at' 2 _ rfl).lt
          have hls39 := ((unhide Q38).at' 1 _ rfl).lt
          generalize u38.alloc (.cells #[.int .i64 8, .int .i64 20, .int .i64 8, .int .i64 0] 2) = v39 at Q39 ⊢
          generalize u38.heap.size = lb39 at *
          refine hK.out _ _ ?_ (fun hHeld39 => ?_)
          · exact ⟨lit_cellZ ((unhide Q39).at' 2 _ rfl) (by simp) hi15n hza, ((unhide Q39).at' 3 _ rfl).cell 0 _ rfl, ((unhide Q39).at' 3 _ rfl).cell 1 _ rfl, ((unhide Q39).at' 3 _ rfl).cell 2 _ rfl⟩
          clear hK K
          obtain ⟨zb, hzb⟩ : ∃ z, litZ [.int .i64 8, .int .i64 20, .int .i64 8, .int .i64 0] i34 = z := ⟨_, rfl⟩
          refine wpAnyH_more (S' := (fun w' => w'.cell? ⟨lb39, i34, none⟩ = some (.int .i64 zb) ∧ w'.cell? ⟨lb35, i15, none⟩ = some (.int .i64 za) ∧ w'.cell? ⟨fb, 0, none⟩ = some (.int .i64 wd) ∧ w'.cell? ⟨fb, 1, none⟩ = some (.int .i64 ht) ∧ w'.cell? ⟨fb, 2, none⟩ = some (.string s))) (fun _ h => h.2) ⟨lit_cellZ ((unhide Q39).at' 0 _ rfl) (by simp) hi34n hzb, lit_cellZ ((unhide Q39).at' 2 _ rfl) (by simp) hi15n hza, ((unhide Q39).at' 3 _ rfl).cell 0 _ rfl, ((unhide Q39).at' 3 _ rfl).cell 1 _ rfl, ((unhide Q39).at' 3 _ rfl).cell 2 _ rfl⟩ (fun hMore39 => ?_)
          refine wpAnyH_take (i := 9) (v := ?_) rfl (by kernel_rfl) (by kernel_rfl) (by kernel_rfl) (fun _ _ _ h => h) (Or.inl ⟨by rfl, ?_⟩) (by assumption) ?_
          rotate_left
          · intro W0 hSw; (try dsimp only at hSw); go_simp <;> with_reducible rfl
          try simp only [Act.put, List.setIfInBounds_toArray, List.set_cons_zero, List.set_cons_succ]
          refine wpAnyH_take (i := 10) (v := ?_) rfl (by kernel_rfl) (by kernel_rfl) (by kernel_rfl) (fun _ _ _ h => h) (Or.inl ⟨by rfl, ?_⟩) (by assumption) ?_
          rotate_left
          · intro W0 hSw; (try dsimp only at hSw); go_simp <;> with_reducible rfl
          try simp only [Act.put, List.setIfInBounds_toArray, List.set_cons_zero, List.set_cons_succ]
          refine wpAnyH_take (i := 13) (v := ?_) rfl (by kernel_rfl) (by kernel_rfl) (by kernel_rfl) (fun _ _ _ h => h) (Or.inl ⟨by rfl, ?_⟩) (by assumption) ?_
          rotate_left
          · intro W0 hSw; (try dsimp only at hSw); go_simp <;> with_reducible rfl
          try simp only [Act.put, List.setIfInBounds_toArray, List.set_cons_zero, List.set_cons_succ]
          refine wpAnyH_done (by kernel_rfl) ?_ _
          have y0_0 := ((unhide Q39).at' 1 _ rfl).cell 0 _ rfl
          have y0_1 := ((unhide Q39).at' 1 _ rfl).cell 1 _ rfl
          have y0_2 := ((unhide Q39).at' 1 _ rfl).cell 2 _ rfl
          go_wp2_with fail
          exact bodyPost_ret (v := .tuple #[.agg #[.int .i64 wd, .int .i64 ht, .string s], .int .i64 za, .int .i64 zb]) (by simp [results, Try.results19, go_sem, y0_0, y0_1, y0_2]) rfl ⟨⟨_, _, _, hs, _, _, rfl⟩, (unhide Q39).bel⟩
      · go_simp
        have Q40 := hide ((unhide Q34).alloc [.int .i64 8, .int .i64 20, .int .i64 8, .int .i64 0] 2)
        have hlw40 := ((unhide Q34).at' 0 _ rfl).lt
        generalize w34.alloc (.cells #[.int .i64 8, .int .i64 20, .int .i64 8, .int .i64 0] 2) = v40 at Q40 ⊢
        generalize w34.heap.size = lb40 at *
        refine hK.out _ _ ?_ (fun hHeld40 => ?_)
        · exact ⟨((unhide Q40).at' 1 _ rfl).cell 0 _ rfl, ((unhide Q40).at' 1 _ rfl).cell 1 _ rfl, ((unhide Q40).at' 1 _ rfl).cell 2 _ rfl⟩
        clear hK K
        obtain ⟨zb, hzb⟩ : ∃ z, litZ [.int .i64 8, .int .i64 20, .int .i64 8, .int .i64 0] i34 = z := ⟨_, rfl⟩
        refine wpAnyH_more (S' := (fun w' => w'.cell? ⟨lb40, i34, none⟩ = some (.int .i64 zb) ∧ w'.cell? ⟨fb, 0, none⟩ = some (.int .i64 wd) ∧ w'.cell? ⟨fb, 1, none⟩ = some (.int .i64 ht) ∧ w'.cell? ⟨fb, 2, none⟩ = some (.string s))) (fun _ h => h.2) ⟨lit_cellZ ((unhide Q40).at' 0 _ rfl) (by simp) hi34n hzb, ((unhide Q40).at' 1 _ rfl).cell 0 _ rfl, ((unhide Q40).at' 1 _ rfl).cell 1 _ rfl, ((unhide Q40).at' 1 _ rfl).cell 2 _ rfl⟩ (fun hMore40 => ?_)
        refine wpAnyH_take (i := 9) (v := ?_) rfl (by kernel_rfl) (by kernel_rfl) (by kernel_rfl) (fun _ _ _ h => h) (Or.inl ⟨by rfl, ?_⟩) (by assumption) ?_
        rotate_left
        · intro W0 hSw; (try dsimp only at hSw); go_simp <;> with_reducible rfl
        try simp only [Act.put, List.setIfInBounds_toArray, List.set_cons_zero, List.set_cons_succ]
        refine wpAnyH_take (i := 10) (v := ?_) rfl (by kernel_rfl) (by kernel_rfl) (by kernel_rfl) (fun _ _ _ h => h) (Or.inl ⟨by rfl, ?_⟩) (by assumption) ?_
        rotate_left
        · intro W0 hSw; (try dsimp only at hSw); go_simp <;> with_reducible rfl
        try simp only [Act.put, List.setIfInBounds_toArray, List.set_cons_zero, List.set_cons_succ]
        refine wpAnyH_ready (rs := [1, 11]) (by kernel_rfl) (by simp) ?_
        refine (AllReadyH.cons rfl (fun K hK => ?_) (AllReadyH.cons rfl (fun K hK => ?_) AllReadyH.nil))
        · go_simp
          have Q41 := hide ((unhide Q40).alloc [.int .i64 10, .int .i64 10, .int .i64 40, .int .i64 256] 2)
          have hlw41 := ((unhide Q40).at' 1 _ rfl).lt
          have hls41 := ((unhide Q40).at' 0 _ rfl).lt
          generalize v40.alloc (.cells #[.int .i64 10, .int .i64 10, .int .i64 40, .int .i64 256] 2) = v41 at Q41 ⊢
          generalize v40.heap.size = lb41 at *
          refine hK.out _ _ ?_ (fun hHeld41 => ?_)
          · exact ⟨lit_cellZ ((unhide Q41).at' 1 _ rfl) (by simp) hi34n hzb, ((unhide Q41).at' 2 _ rfl).cell 0 _ rfl, ((unhide Q41).at' 2 _ rfl).cell 1 _ rfl, ((unhide Q41).at' 2 _ rfl).cell 2 _ rfl⟩
          clear hK K
          obtain ⟨za, hza⟩ : ∃ z, litZ [.int .i64 10, .int .i64 10, .int .i64 40, .int .i64 256] i15 = z := ⟨_, rfl⟩
          refine wpAnyH_more (S' := (fun w' => w'.cell? ⟨lb41, i15, none⟩ = some (.int .i64 za) ∧ w'.cell? ⟨lb40, i34, none⟩ = some (.int .i64 zb) ∧ w'.cell? ⟨fb, 0, none⟩ = some (.int .i64 wd) ∧ w'.cell? ⟨fb, 1, none⟩ = some (.int .i64 ht) ∧ w'.cell? ⟨fb, 2, none⟩ = some (.string s))) (fun _ h => h.2) ⟨lit_cellZ ((unhide Q41).at' 0 _ rfl) (by simp) hi15n hza, lit_cellZ ((unhide Q41).at' 1 _ rfl) (by simp) hi34n hzb, ((unhide Q41).at' 2 _ rfl).cell 0 _ rfl, ((unhide Q41).at' 2 _ rfl).cell 1 _ rfl, ((unhide Q41).at' 2 _ rfl).cell 2 _ rfl⟩ (fun hMore41 => ?_)
          refine wpAnyH_take (i := 4) (v := ?_) rfl (by kernel_rfl) (by kernel_rfl) (by kernel_rfl) (fun _ _ _ h => h) (Or.inl ⟨by rfl, ?_⟩) (by assumption) ?_
          rotate_left
          · intro W0 hSw; (try dsimp only at hSw); go_simp <;> with_reducible rfl
          try simp only [Act.put, List.setIfInBounds_toArray, List.set_cons_zero, List.set_cons_succ]
          refine wpAnyH_take (i := 5) (v := ?_) rfl (by kernel_rfl) (by kernel_rfl) (by kernel_rfl) (fun _ _ _ h => h) (Or.inl ⟨by rfl, ?_⟩) (by assumption) ?_
          rotate_left
          · intro W0 hSw; (try dsimp only at hSw); go_simp <;> with_reducible rfl
          try simp only [Act.put, List.setIfInBounds_toArray, List.set_cons_zero, List.set_cons_succ]
          refine wpAnyH_ready (rs := [11]) (by kernel_rfl) (by simp) ?_
          refine (AllReadyH.cons rfl (fun K hK => ?_) AllReadyH.nil)
          have r42_0 := ((unhide Q41).at' 3 _ rfl).cell 0 _ rfl
          have r42_1 := ((unhide Q41).at' 3 _ rfl).cell 1 _ rfl
          have r42_2 := ((unhide Q41).at' 3 _ rfl).cell 2 _ rfl
          have x42_0 := ((unhide Q41).at' 3 _ rfl).free 0
          have x42_1 := ((unhide Q41).at' 3 _ rfl).free 1
          have x42_2 := ((unhide Q41).at' 3 _ rfl).free 2
          have hne42 : ∀ x ∈ ([(lb41, [.int .i64 10, .int .i64 10, .int .i64 40, .int .i64 256], 2), (lb40, [.int .i64 8, .int .i64 20, .int .i64 8, .int .i64 0], 2), (fb, [.int .i64 wd, .int .i64 ht, .string s], 24)] : List (Nat × List Value × TypeId)), x.1 ≠ w.heap.size := by simp; omega
          have Q42 := hide (((((unhide Q41).db.pick (bs' := (w.heap.size, [.int .i64 0, .int .i64 0, .string ⟨#[]⟩], 24) :: [(lb41, [.int .i64 10, .int .i64 10, .int .i64 40, .int .i64 256], 2), (lb40, [.int .i64 8, .int .i64 20, .int .i64 8, .int .i64 0], 2), (fb, [.int .i64 wd, .int .i64 ht, .string s], 24)]) (by intro x hx; simp only [List.mem_cons, List.not_mem_nil, or_false] at hx; rcases hx with rfl | rfl | rfl | rfl <;> simp)).set hne42 0 (.int .i64 wd)).set hne42 1 (.int .i64 ht)).set hne42 2 (.string s))
          go_simp
          clear r42_0 x42_0 r42_1 x42_1 r42_2 x42_2
          generalize (((v41.setCell ⟨w.heap.size, 0, none⟩ (.int .i64 wd)).setCell ⟨w.heap.size, 1, none⟩ (.int .i64 ht)).setCell ⟨w.heap.size, 2, none⟩ (.string s)) = u42 at Q42 ⊢
          refine hK.out _ _ ?_ (fun hHeld42 => ?_)
          · exact ⟨lit_cellZ ((unhide Q42).at' 1 _ rfl) (by simp) hi15n hza, lit_cellZ ((unhide Q42).at' 2 _ rfl) (by simp) hi34n hzb, ((unhide Q42).at' 3 _ rfl).cell 0 _ rfl, ((unhide Q42).at' 3 _ rfl).cell 1 _ rfl, ((unhide Q42).at' 3 _ rfl).cell 2 _ rfl⟩
          clear hK K
          refine wpAnyH_take (i := 12) (v := ?_) rfl (by kernel_rfl) (by kernel_rfl) (by kernel_rfl) (fun _ _ _ h => h) (Or.inl ⟨by rfl, ?_⟩) (by assumption) ?_
          rotate_left
          · intro W0 hSw; (try dsimp only at hSw); go_simp <;> with_reducible rfl
          try simp only [Act.put, List.setIfInBounds_toArray, List.set_cons_zero, List.set_cons_succ]
          refine wpAnyH_take (i := 13) (v := ?_) rfl (by kernel_rfl) (by kernel_rfl) (by kernel_rfl) (fun _ _ _ h => h) (Or.inl ⟨by rfl, ?_⟩) (by assumption) ?_
          rotate_left
          · intro W0 hSw; (try dsimp only at hSw); go_simp <;> with_reducible rfl
          try simp only [Act.put, List.setIfInBounds_toArray, List.set_cons_zero, List.set_cons_succ]
          refine wpAnyH_done (by kernel_rfl) ?_ _
          have y0_0 := ((unhide Q42).at' 0 _ rfl).cell 0 _ rfl
          have y0_1 := ((unhide Q42).at' 0 _ rfl).cell 1 _ rfl
          have y0_2 := ((unhide Q42).at' 0 _ rfl).cell 2 _ rfl
          go_wp2_with fail
          exact bodyPost_ret (v := .tuple #[.agg #[.int .i64 wd, .int .i64 ht, .string s], .int .i64 za, .int .i64 zb]) (by simp [results, Try.results19, go_sem, y0_0, y0_1, y0_2]) rfl ⟨⟨_, _, _, hs, _, _, rfl⟩, (unhide Q42).bel⟩
        · have r43_0 := ((unhide Q40).at' 2 _ rfl).cell 0 _ rfl
          have r43_1 := ((unhide Q40).at' 2 _ rfl).cell 1 _ rfl
          have r43_2 := ((unhide Q40).at' 2 _ rfl).cell 2 _ rfl
          have x43_0 := ((unhide Q40).at' 2 _ rfl).free 0
          have x43_1 := ((unhide Q40).at' 2 _ rfl).free 1
          have x43_2 := ((unhide Q40).at' 2 _ rfl).free 2
          have hne43 : ∀ x ∈ ([(lb40, [.int .i64 8, .int .i64 20, .int .i64 8, .int .i64 0], 2), (fb, [.int .i64 wd, .int .i64 ht, .string s], 24)] : List (Nat × List Value × TypeId)), x.1 ≠ w.heap.size := by simp; omega
          have Q43 := hide (((((unhide Q40).db.pick (bs' := (w.heap.size, [.int .i64 0, .int .i64 0, .string ⟨#[]⟩], 24) :: [(lb40, [.int .i64 8, .int .i64 20, .int .i64 8, .int .i64 0], 2), (fb, [.int .i64 wd, .int .i64 ht, .string s], 24)]) (by intro x hx; simp only [List.mem_cons, List.not_mem_nil, or_false] at hx; rcases hx with rfl | rfl | rfl <;> simp)).set hne43 0 (.int .i64 wd)).set hne43 1 (.int .i64 ht)).set hne43 2 (.string s))
          go_simp
          clear r43_0 x43_0 r43_1 x43_1 r43_2 x43_2
          generalize (((v40.setCell ⟨w.heap.size, 0, none⟩ (.int .i64 wd)).setCell ⟨w.heap.size, 1, none⟩ (.int .i64 ht)).setCell ⟨w.heap.size, 2, none⟩ (.string s)) = u43 at Q43 ⊢
          refine hK.out _ _ ?_ (fun hHeld43 => ?_)
          · exact ⟨lit_cellZ ((unhide Q43).at' 1 _ rfl) (by simp) hi34n hzb, ((unhide Q43).at' 2 _ rfl).cell 0 _ rfl, ((unhide Q43).at' 2 _ rfl).cell 1 _ rfl, ((unhide Q43).at' 2 _ rfl).cell 2 _ rfl⟩
          clear hK K
          refine wpAnyH_ready (rs := [1]) (by kernel_rfl) (by simp) ?_
          refine (AllReadyH.cons rfl (fun K hK => ?_) AllReadyH.nil)
          go_simp
          have Q44 := hide ((unhide Q43).alloc [.int .i64 10, .int .i64 10, .int .i64 40, .int .i64 256] 2)
          have hlw44 := ((unhide Q43).at' 2 _ rfl).lt
          have hls44 := ((unhide Q43).at' 1 _ rfl).lt
          generalize u43.alloc (.cells #[.int .i64 10, .int .i64 10, .int .i64 40, .int .i64 256] 2) = v44 at Q44 ⊢
          generalize u43.heap.size = lb44 at *
          refine hK.out _ _ ?_ (fun hHeld44 => ?_)
          · exact ⟨lit_cellZ ((unhide Q44).at' 2 _ rfl) (by simp) hi34n hzb, ((unhide Q44).at' 3 _ rfl).cell 0 _ rfl, ((unhide Q44).at' 3 _ rfl).cell 1 _ rfl, ((unhide Q44).at' 3 _ rfl).cell 2 _ rfl⟩
          clear hK K
          obtain ⟨za, hza⟩ : ∃ z, litZ [.int .i64 10, .int .i64 10, .int .i64 40, .int .i64 256] i15 = z := ⟨_, rfl⟩
          refine wpAnyH_more (S' := (fun w' => w'.cell? ⟨lb44, i15, none⟩ = some (.int .i64 za) ∧ w'.cell? ⟨lb40, i34, none⟩ = some (.int .i64 zb) ∧ w'.cell? ⟨fb, 0, none⟩ = some (.int .i64 wd) ∧ w'.cell? ⟨fb, 1, none⟩ = some (.int .i64 ht) ∧ w'.cell? ⟨fb, 2, none⟩ = some (.string s))) (fun _ h => h.2) ⟨lit_cellZ ((unhide Q44).at' 0 _ rfl) (by simp) hi15n hza, lit_cellZ ((unhide Q44).at' 2 _ rfl) (by simp) hi34n hzb, ((unhide Q44).at' 3 _ rfl).cell 0 _ rfl, ((unhide Q44).at' 3 _ rfl).cell 1 _ rfl, ((unhide Q44).at' 3 _ rfl).cell 2 _ rfl⟩ (fun hMore44 => ?_)
          refine wpAnyH_take (i := 4) (v := ?_) rfl (by kernel_rfl) (by kernel_rfl) (by kernel_rfl) (fun _ _ _ h => h) (Or.inl ⟨by rfl, ?_⟩) (by assumption) ?_
          rotate_left
          · intro W0 hSw; (try dsimp only at hSw); go_simp <;> with_reducible rfl
          try simp only [Act.put, List.setIfInBounds_toArray, List.set_cons_zero, List.set_cons_succ]
          refine wpAnyH_take (i := 5) (v := ?_) rfl (by kernel_rfl) (by kernel_rfl) (by kernel_rfl) (fun _ _ _ h => h) (Or.inl ⟨by rfl, ?_⟩) (by assumption) ?_
          rotate_left
          · intro W0 hSw; (try dsimp only at hSw); go_simp <;> with_reducible rfl
          try simp only [Act.put, List.setIfInBounds_toArray, List.set_cons_zero, List.set_cons_succ]
          refine wpAnyH_take (i := 12) (v := ?_) rfl (by kernel_rfl) (by kernel_rfl) (by kernel_rfl) (fun _ _ _ h => h) (Or.inl ⟨by rfl, ?_⟩) (by assumption) ?_
          rotate_left
          · intro W0 hSw; (try dsimp only at hSw); go_simp <;> with_reducible rfl
          try simp only [Act.put, List.setIfInBounds_toArray, List.set_cons_zero, List.set_cons_succ]
          refine wpAnyH_take (i := 13) (v := ?_) rfl (by kernel_rfl) (by kernel_rfl) (by kernel_rfl) (fun _ _ _ h => h) (Or.inl ⟨by rfl, ?_⟩) (by assumption) ?_
          rotate_left
          · intro W0 hSw; (try dsimp only at hSw); go_simp <;> with_reducible rfl
          try simp only [Act.put, List.setIfInBounds_toArray, List.set_cons_zero, List.set_cons_succ]
          refine wpAnyH_done (by kernel_rfl) ?_ _
          have y0_0 := ((unhide Q44).at' 1 _ rfl).cell 0 _ rfl
          have y0_1 := ((unhide Q44).at' 1 _ rfl).cell 1 _ rfl
          have y0_2 := ((unhide Q44).at' 1 _ rfl).cell 2 _ rfl
          go_wp2_with fail
          exact bodyPost_ret (v := .tuple #[.agg #[.int .i64 wd, .int .i64 ht, .string s], .int .i64 za, .int .i64 zb]) (by simp [results, Try.results19, go_sem, y0_0, y0_1, y0_2]) rfl ⟨⟨_, _, _, hs, _, _, rfl⟩, (unhide Q44).bel⟩
      · have r45_0 := ((unhide Q34).at' 1 _ rfl).cell 0 _ rfl
        have r45_1 := ((unhide Q34).at' 1 _ rfl).cell 1 _ rfl
        have r45_2 := ((unhide Q34).at' 1 _ rfl).cell 2 _ rfl
        have x45_0 := ((unhide Q34).at' 1 _ rfl).free 0
        have x45_1 := ((unhide Q34).at' 1 _ rfl).free 1
        have x45_2 := ((unhide Q34).at' 1 _ rfl).free 2
        have hne45 : ∀ x ∈ ([(fb, [.int .i64 wd, .int .i64 ht, .string s], 24)] : List (Nat × List Value × TypeId)), x.1 ≠ w.heap.size := by simp; omega
        have Q45 := hide (((((unhide Q34).db.pick (bs' := (w.heap.size, [.int .i64 0, .int .i64 0, .string ⟨#[]⟩], 24) :: [(fb, [.int .i64 wd, .int .i64 ht, .string s], 24)]) (by intro x hx; simp only [List.mem_cons, List.not_mem_nil, or_false] at hx; rcases hx with rfl | rfl <;> simp)).set hne45 0 (.int .i64 wd)).set hne45 1 (.int .i64 ht)).set hne45 2 (.string s))
        go_simp
        clear r45_0 x45_0 r45_1 x45_1 r45_2 x45_2
        generalize (((w34.setCell ⟨w.heap.size, 0, none⟩ (.int .i64 wd)).setCell ⟨w.heap.size, 1, none⟩ (.int .i64 ht)).setCell ⟨w.heap.size, 2, none⟩ (.string s)) = u45 at Q45 ⊢
        refine hK.out _ _ ?_ (fun hHeld45 => ?_)
        · exact ⟨((unhide Q45).at' 1 _ rfl).cell 0 _ rfl, ((unhide Q45).at' 1 _ rfl).cell 1 _ rfl, ((unhide Q45).at' 1 _ rfl).cell 2 _ rfl⟩
        clear hK K
        refine wpAnyH_ready (rs := [1, 6]) (by kernel_rfl) (by simp) ?_
        refine (AllReadyH.cons rfl (fun K hK => ?_) (AllReadyH.cons rfl (fun K hK => ?_) AllReadyH.nil))
        · go_simp
          have Q46 := hide ((unhide Q45).alloc [.int .i64 10, .int .i64 10, .int .i64 40, .int .i64 256] 2)
          have hlw46 := ((unhide Q45).at' 1 _ rfl).lt
          generalize u45.alloc (.cells #[.int .i64 10, .int .i64 10, .int .i64 40, .int .i64 256] 2) = v46 at Q46 ⊢
          generalize u45.heap.size = lb46 at *
          refine hK.out _ _ ?_ (fun hHeld46 => ?_)
          · exact ⟨((unhide Q46).at' 2 _ rfl).cell 0 _ rfl, ((unhide Q46).at' 2 _ rfl).cell 1 _ rfl, ((unhide Q46).at' 2 _ rfl).cell 2 _ rfl⟩
          clear hK K
          obtain ⟨za, hza⟩ : ∃ z, litZ [.int .i64 10, .int .i64 10, .int .i64 40, .int .i64 256] i15 = z := ⟨_, rfl⟩
          refine wpAnyH_more (S' := (fun w' => w'.cell? ⟨lb46, i15, none⟩ = some (.int .i64 za) ∧ w'.cell? ⟨fb, 0, none⟩ = some (.int .i64 wd) ∧ w'.cell? ⟨fb, 1, none⟩ = some (.int .i64 ht) ∧ w'.cell? ⟨fb, 2, none⟩ = some (.string s))) (fun _ h => h.2) ⟨lit_cellZ ((unhide Q46).at' 0 _ rfl) (by simp) hi15n hza, ((unhide Q46).at' 2 _ rfl).cell 0 _ rfl, ((unhide Q46).at' 2 _ rfl).cell 1 _ rfl, ((unhide Q46).at' 2 _ rfl).cell 2 _ rfl⟩ (fun hMore46 => ?_)
          refine wpAnyH_take (i := 4) (v := ?_) rfl (by kernel_rfl) (by kernel_rfl) (by kernel_rfl) (fun _ _ _ h => h) (Or.inl ⟨by rfl, ?_⟩) (by assumption) ?_
          rotate_left
          · intro W0 hSw; (try dsimp only at hSw); go_simp <;> with_reducible rfl
          try simp only [Act.put, List.setIfInBounds_toArray, List.set_cons_zero, List.set_cons_succ]
          refine wpAnyH_take (i := 5) (v := ?_) rfl (by kernel_rfl) (by kernel_rfl) (by kernel_rfl) (fun _ _ _ h => h) (Or.inl ⟨by rfl, ?_⟩) (by assumption) ?_
          rotate_left
          · intro W0 hSw; (try dsimp only at hSw); go_simp <;> with_reducible rfl
          try simp only [Act.put, List.setIfInBounds_toArray, List.set_cons_zero, List.set_cons_succ]
          refine wpAnyH_take (i := 12) (v := ?_) rfl (by kernel_rfl) (by kernel_rfl) (by kernel_rfl) (fun _ _ _ h => h) (Or.inl ⟨by rfl, ?_⟩) (by assumption) ?_
          rotate_left
          · intro W0 hSw; (try dsimp only at hSw); go_simp <;> with_reducible rfl
          try simp only [Act.put, List.setIfInBounds_toArray, List.set_cons_zero, List.set_cons_succ]
          refine wpAnyH_ready (rs := [6]) (by kernel_rfl) (by simp) ?_
          refine (AllReadyH.cons rfl (fun K hK => ?_) AllReadyH.nil)
          go_simp
          have Q47 := hide ((unhide Q46).alloc [.int .i64 8, .int .i64 20, .int .i64 8, .int .i64 0] 2)
          have hlw47 := ((unhide Q46).at' 2 _ rfl).lt
          have hls47 := ((unhide Q46).at' 0 _ rfl).lt
          generalize v46.alloc (.cells #[.int .i64 8, .int .i64 20, .int .i64 8, .int .i64 0] 2) = v47 at Q47 ⊢
          generalize v46.heap.size = lb47 at *
          refine hK.out _ _ ?_ (fun hHeld47 => ?_)
          · exact ⟨lit_cellZ ((unhide Q47).at' 1 _ rfl) (by simp) hi15n hza, ((unhide Q47).at' 3 _ rfl).cell 0 _ rfl, ((unhide Q47).at' 3 _ rfl).cell 1 _ rfl, ((unhide Q47).at' 3 _ rfl).cell 2 _ rfl⟩
          clear hK K
          obtain ⟨zb, hzb⟩ : ∃ z, litZ [.int .i64 8, .int .i64 20, .int .i64 8, .int .i64 0] i34 = z := ⟨_, rfl⟩
          refine wpAnyH_more (S' := (fun w' => w'.cell? ⟨lb47, i34, none⟩ = some (.int .i64 zb) ∧ w'.cell? ⟨lb46, i15, none⟩ = some (.int .i64 za) ∧ w'.cell? ⟨fb, 0, none⟩ = some (.int .i64 wd) ∧ w'.cell? ⟨fb, 1, none⟩ = some (.int .i64 ht) ∧ w'.cell? ⟨fb, 2, none⟩ = some (.string s))) (fun _ h => h.2) ⟨lit_cellZ ((unhide Q47).at' 0 _ rfl) (by simp) hi34n hzb, lit_cellZ ((unhide Q47).at' 1 _ rfl) (by simp) hi15n hza, ((unhide Q47).at' 3 _ rfl).cell 0 _ rfl, ((unhide Q47).at' 3 _ rfl).cell 1 _ rfl, ((unhide Q47).at' 3 _ rfl).cell 2 _ rfl⟩ (fun hMore47 => ?_)
          refine wpAnyH_take (i := 9) (v := ?_) rfl (by kernel_rfl) (by kernel_rfl) (by kernel_rfl) (fun _ _ _ h => h) (Or.inl ⟨by rfl, ?_⟩) (by assumption) ?_
          rotate_left
          · intro W0 hSw; (try dsimp only at hSw); go_simp <;> with_reducible rfl
          try simp only [Act.put, List.setIfInBounds_toArray, List.set_cons_zero, List.set_cons_succ]
          refine wpAnyH_take (i := 10) (v := ?_) rfl (by kernel_rfl) (by kernel_rfl) (by kernel_rfl) (fun _ _ _ h => h) (Or.inl ⟨by rfl, ?_⟩) (by assumption) ?_
          rotate_left
          · intro W0 hSw; (try dsimp only at hSw); go_simp <;> with_reducible rfl
          try simp only [Act.put, List.setIfInBounds_toArray, List.set_cons_zero, List.set_cons_succ]
          refine wpAnyH_take (i := 13) (v := ?_) rfl (by kernel_rfl) (by kernel_rfl) (by kernel_rfl) (fun _ _ _ h => h) (Or.inl ⟨by rfl, ?_⟩) (by assumption) ?_
          rotate_left
          · intro W0 hSw; (try dsimp only at hSw); go_simp <;> with_reducible rfl
          try simp only [Act.put, List.setIfInBounds_toArray, List.set_cons_zero, List.set_cons_succ]
          refine wpAnyH_done (by kernel_rfl) ?_ _
          have y0_0 := ((unhide Q47).at' 2 _ rfl).cell 0 _ rfl
          have y0_1 := ((unhide Q47).at' 2 _ rfl).cell 1 _ rfl
          have y0_2 := ((unhide Q47).at' 2 _ rfl).cell 2 _ rfl
          go_wp2_with fail
          exact bodyPost_ret (v := .tuple #[.agg #[.int .i64 wd, .int .i64 ht, .string s], .int .i64 za, .int .i64 zb]) (by simp [results, Try.results19, go_sem, y0_0, y0_1, y0_2]) rfl ⟨⟨_, _, _, hs, _, _, rfl⟩, (unhide Q47).bel⟩
        · go_simp
          have Q48 := hide ((unhide Q45).alloc [.int .i64 8, .int .i64 20, .int .i64 8, .int .i64 0] 2)
          have hlw48 := ((unhide Q45).at' 1 _ rfl).lt
          generalize u45.alloc (.cells #[.int .i64 8, .int .i64 20, .int .i64 8, .int .i64 0] 2) = v48 at Q48 ⊢
          generalize u45.heap.size = lb48 at *
          refine hK.out _ _ ?_ (fun hHeld48 => ?_)
          · exact ⟨((unhide Q48).at' 2 _ rfl).cell 0 _ rfl, ((unhide Q48).at' 2 _ rfl).cell 1 _ rfl, ((unhide Q48).at' 2 _ rfl).cell 2 _ rfl⟩
          clear hK K
          obtain ⟨zb, hzb⟩ : ∃ z, litZ [.int .i64 8, .int .i64 20, .int .i64 8, .int .i64 0] i34 = z := ⟨_, rfl⟩
          refine wpAnyH_more (S' := (fun w' => w'.cell? ⟨lb48, i34, none⟩ = some (.int .i64 zb) ∧ w'.cell? ⟨fb, 0, none⟩ = some (.int .i64 wd) ∧ w'.cell? ⟨fb, 1, none⟩ = some (.int .i64 ht) ∧ w'.cell? ⟨fb, 2, none⟩ = some (.string s))) (fun _ h => h.2) ⟨lit_cellZ ((unhide Q48).at' 0 _ rfl) (by simp) hi34n hzb, ((unhide Q48).at' 2 _ rfl).cell 0 _ rfl, ((unhide Q48).at' 2 _ rfl).cell 1 _ rfl, ((unhide Q48).at' 2 _ rfl).cell 2 _ rfl⟩ (fun hMore48 => ?_)
          refine wpAnyH_take (i := 9) (v := ?_) rfl (by kernel_rfl) (by kernel_rfl) (by kernel_rfl) (fun _ _ _ h => h) (Or.inl ⟨by rfl, ?_⟩) (by assumption) ?_
          rotate_left
          · intro W0 hSw; (try dsimp only at hSw); go_simp <;> with_reducible rfl
          try simp only [Act.put, List.setIfInBounds_toArray, List.set_cons_zero, List.set_cons_succ]
          refine wpAnyH_take (i := 10) (v := ?_) rfl (by kernel_rfl) (by kernel_rfl) (by kernel_rfl) (fun _ _ _ h => h) (Or.inl ⟨by rfl, ?_⟩) (by assumption) ?_
          rotate_left
          · intro W0 hSw; (try dsimp only at hSw); go_simp <;> with_reducible rfl
          try simp only [Act.put, List.setIfInBounds_toArray, List.set_cons_zero, List.set_cons_succ]
          refine wpAnyH_ready (rs := [1]) (by kernel_rfl) (by simp) ?_
          refine (AllReadyH.cons rfl (fun K hK => ?_) AllReadyH.nil)
          go_simp
          have Q49 := hide ((unhide Q48).alloc [.int .i64 10, .int .i64 10, .int .i64 40, .int .i64 256] 2)
          have hlw49 := ((unhide Q48).at' 2 _ rfl).lt
          have hls49 := ((unhide Q48).at' 0 _ rfl).lt
          generalize v48.alloc (.cells #[.int .i64 10, .int .i64 10, .int .i64 40, .int .i64 256] 2) = v49 at Q49 ⊢
          generalize v48.heap.size = lb49 at *
          refine hK.out _ _ ?_ (fun hHeld49 => ?_)
          · exact ⟨lit_cellZ ((unhide Q49).at' 1 _ rfl) (by simp) hi34n hzb, ((unhide Q49).at' 3 _ rfl).cell 0 _ rfl, ((unhide Q49).at' 3 _ rfl).cell 1 _ rfl, ((unhide Q49).at' 3 _ rfl).cell 2 _ rfl⟩
          clear hK K
          obtain ⟨za, hza⟩ : ∃ z, litZ [.int .i64 10, .int .i64 10, .int .i64 40, .int .i64 256] i15 = z := ⟨_, rfl⟩
          refine wpAnyH_more (S' := (fun w' => w'.cell? ⟨lb49, i15, none⟩ = some (.int .i64 za) ∧ w'.cell? ⟨lb48, i34, none⟩ = some (.int .i64 zb) ∧ w'.cell? ⟨fb, 0, none⟩ = some (.int .i64 wd) ∧ w'.cell? ⟨fb, 1, none⟩ = some (.int .i64 ht) ∧ w'.cell? ⟨fb, 2, none⟩ = some (.string s))) (fun _ h => h.2) ⟨lit_cellZ ((unhide Q49).at' 0 _ rfl) (by simp) hi15n hza, lit_cellZ ((unhide Q49).at' 1 _ rfl) (by simp) hi34n hzb, ((unhide Q49).at' 3 _ rfl).cell 0 _ rfl, ((unhide Q49).at' 3 _ rfl).cell 1 _ rfl, ((unhide Q49).at' 3 _ rfl).cell 2 _ rfl⟩ (fun hMore49 => ?_)
          refine wpAnyH_take (i := 4) (v := ?_) rfl (by kernel_rfl) (by kernel_rfl) (by kernel_rfl) (fun _ _ _ h => h) (Or.inl ⟨by rfl, ?_⟩) (by assumption) ?_
          rotate_left
          · intro W0 hSw; (try dsimp only at hSw); go_simp <;> with_reducible rfl
          try simp only [Act.put, List.setIfInBounds_toArray, List.set_cons_zero, List.set_cons_succ]
          refine wpAnyH_take (i := 5) (v := ?_) rfl (by kernel_rfl) (by kernel_rfl) (by kernel_rfl) (fun _ _ _ h => h) (Or.inl ⟨by rfl, ?_⟩) (by assumption) ?_
          rotate_left
          · intro W0 hSw; (try dsimp only at hSw); go_simp <;> with_reducible rfl
          try simp only [Act.put, List.setIfInBounds_toArray, List.set_cons_zero, List.set_cons_succ]
          refine wpAnyH_take (i := 12) (v := ?_) rfl (by kernel_rfl) (by kernel_rfl) (by kernel_rfl) (fun _ _ _ h => h) (Or.inl ⟨by rfl, ?_⟩) (by assumption) ?_
          rotate_left
          · intro W0 hSw; (try dsimp only at hSw); go_simp <;> with_reducible rfl
          try simp only [Act.put, List.setIfInBounds_toArray, List.set_cons_zero, List.set_cons_succ]
          refine wpAnyH_take (i := 13) (v := ?_) rfl (by kernel_rfl) (by kernel_rfl) (by kernel_rfl) (fun _ _ _ h => h) (Or.inl ⟨by rfl, ?_⟩) (by assumption) ?_
          rotate_left
          · intro W0 hSw; (try dsimp only at hSw); go_simp <;> with_reducible rfl
          try simp only [Act.put, List.setIfInBounds_toArray, List.set_cons_zero, List.set_cons_succ]
          refine wpAnyH_done (by kernel_rfl) ?_ _
          have y0_0 := ((unhide Q49).at' 2 _ rfl).cell 0 _ rfl
          have y0_1 := ((unhide Q49).at' 2 _ rfl).cell 1 _ rfl
          have y0_2 := ((unhide Q49).at' 2 _ rfl).cell 2 _ rfl
          go_wp2_with fail
          exact bodyPost_ret (v := .tuple #[.agg #[.int .i64 wd, .int .i64 ht, .string s], .int .i64 za, .int .i64 zb]) (by simp [results, Try.results19, go_sem, y0_0, y0_1, y0_2]) rfl ⟨⟨_, _, _, hs, _, _, rfl⟩, (unhide Q49).bel⟩
  · go_simp
    have Q50 := hide ((unhide Q0).alloc [.int .i64 8, .int .i64 20, .int .i64 8, .int .i64 0] 2)
    have hlw50 := ((unhide Q0).at' 0 _ rfl).lt
    generalize V0.alloc (.cells #[.int .i64 8, .int .i64 20, .int .i64 8, .int .i64 0] 2) = v50 at Q50 ⊢
    generalize V0.heap.size = lb50 at *
    refine hK.out _ _ ?_ (fun hHeld50 => ?_)
    · exact ⟨((unhide Q50).at' 1 _ rfl).cell 0 _ rfl, ((unhide Q50).at' 1 _ rfl).cell 1 _ rfl, ((unhide Q50).at' 1 _ rfl).cell 2 _ rfl⟩
    clear hK K
    refine wpAnyH_ready (rs := [1, 3]) (by kernel_rfl) (by simp) ?_
    refine (AllReadyH.cons rfl (fun K hK => ?_) (AllReadyH.cons rfl (fun K hK => ?_) AllReadyH.nil))
    · go_simp
      have Q51 := hide ((unhide Q50).alloc [.int .i64 10, .int .i64 10, .int .i64 40, .int .i64 256] 2)
      have hlw51 := ((unhide Q50).at' 1 _ rfl).lt
      have hls51 := ((unhide Q50).at' 0 _ rfl).lt
      generalize v50.alloc (.cells #[.int .i64 10, .int .i64 10, .int .i64 40, .int .i64 256] 2) = v51 at Q51 ⊢
      generalize v50.heap.size = lb51 at *
      refine hK.out _ _ ?_ (fun hHeld51 => ?_)
      · exact ⟨((unhide Q51).at' 2 _ rfl).cell 0 _ rfl, ((unhide Q51).at' 2 _ rfl).cell 1 _ rfl, ((unhide Q51).at' 2 _ rfl).cell 2 _ rfl⟩
      clear hK K
      refine wpAnyH_ready (rs := [3]) (by kernel_rfl) (by simp) ?_
      refine (AllReadyH.cons rfl (fun K hK => ?_) AllReadyH.nil)
      go_simp
      refine (n_any sb 4 _ (unhide Q51).src (by omega)).mono ?_
      rintro e w52 ⟨k52, rfl, hk52a, hk52b, _, hS52, hg52⟩
      have Q52 := hide ((unhide Q51).call hS52 hg52)
      clear hS52 hg52
      obtain ⟨i52, hi52⟩ := Int.eq_ofNat_of_zero_le hk52a
      have hk52c := hk52b (by omega)
      subst hi52
      have hi52n : i52 < 4 := by omega
      have hi52m : (i52 : Int) < 4 := by omega
      refine hK.out _ _ ?_ (fun hHeld52 => ?_)
      · exact ⟨((unhide Q52).at' 2 _ rfl).cell 0 _ rfl, ((unhide Q52).at' 2 _ rfl).cell 1 _ rfl, ((unhide Q52).at' 2 _ rfl).cell 2 _ rfl⟩
      clear hK K
      obtain ⟨za, hza⟩ : ∃ z, litZ [.int .i64 10, .int .i64 10, .int .i64 40, .int .i64 256] i52 = z := ⟨_, rfl⟩
      refine wpAnyH_more (S' := (fun w' => w'.cell? ⟨lb51, i52, none⟩ = some (.int .i64 za) ∧ w'.cell? ⟨fb, 0, none⟩ = some (.int .i64 wd) ∧ w'.cell? ⟨fb, 1, none⟩ = some (.int .i64 ht) ∧ w'.cell? ⟨fb, 2, none⟩ = some (.string s))) (fun _ h => h.2) ⟨lit_cellZ ((unhide Q52).at' 0 _ rfl) (by simp) hi52n hza, ((unhide Q52).at' 2 _ rfl).cell 0 _ rfl, ((unhide Q52).at' 2 _ rfl).cell 1 _ rfl, ((unhide Q52).at' 2 _ rfl).cell 2 _ rfl⟩ (fun hMore52 => ?_)
      refine wpAnyH_take (i := 4) (v := ?_) rfl (by kernel_rfl) (by kernel_rfl) (by kernel_rfl) (fun _ _ _ h => h) (Or.inl ⟨by rfl, ?_⟩) (by assumption) ?_
      rotate_left
      · intro W0 hSw; (try dsimp only at hSw); go_simp <;> with_reducible rfl
      try simp only [Act.put, List.setIfInBounds_toArray, List.set_cons_zero, List.set_cons_succ]
      refine wpAnyH_take (i := 5) (v := ?_) rfl (by kernel_rfl) (by kernel_rfl) (by kernel_rfl) (fun _ _ _ h => h) (Or.inl ⟨by rfl, ?_⟩) (by assumption) ?_
      rotate_left
      · intro W0 hSw; (try dsimp only at hSw); go_simp <;> with_reducible rfl
      try simp only [Act.put, List.setIfInBounds_toArray, List.set_cons_zero, List.set_cons_succ]
      refine wpAnyH_ready (rs := [8]) (by kernel_rfl) (by simp) ?_
      refine (AllReadyH.cons rfl (fun K hK => ?_) AllReadyH.nil)
      go_simp
      refine (n_any sb 4 _ (unhide Q52).src (by omega)).mono ?_
      rintro e w53 ⟨k53, rfl, hk53a, hk53b, _, hS53, hg53⟩
      have Q53 := hide ((unhide Q52).call hS53 hg53)
      clear hS53 hg53
      obtain ⟨i53, hi53⟩ := Int.eq_ofNat_of_zero_le hk53a
      have hk53c := hk53b (by omega)
      subst hi53
      have hi53n : i53 < 4 := by omega
      have hi53m : (i53 : Int) < 4 := by omega
      refine hK.out _ _ ?_ (fun hHeld53 => ?_)
      · exact ⟨lit_cellZ ((unhide Q53).at' 0 _ rfl) (by simp) hi52n hza, ((unhide Q53).at' 2 _ rfl).cell 0 _ rfl, ((unhide Q53).at' 2 _ rfl).cell 1 _ rfl, ((unhide Q53).at' 2 _ rfl).cell 2 _ rfl⟩
      clear hK K
      obtain ⟨zb, hzb⟩ : ∃ z, litZ [.int .i64 8, .int .i64 20, .int .i64 8, .int .i64 0] i53 = z := ⟨_, rfl⟩
      refine wpAnyH_more (S' := (fun w' => w'.cell? ⟨lb50, i53, none⟩ = some (.int .i64 zb) ∧ w'.cell? ⟨lb51, i52, none⟩ = some (.int .i64 za) ∧ w'.cell? ⟨fb, 0, none⟩ = some (.int .i64 wd) ∧ w'.cell? ⟨fb, 1, none⟩ = some (.int .i64 ht) ∧ w'.cell? ⟨fb, 2, none⟩ = some (.string s))) (fun _ h => h.2) ⟨lit_cellZ ((unhide Q53).at' 1 _ rfl) (by simp) hi53n hzb, lit_cellZ ((unhide Q53).at' 0 _ rfl) (by simp) hi52n hza, ((unhide Q53).at' 2 _ rfl).cell 0 _ rfl, ((unhide Q53).at' 2 _ rfl).cell 1 _ rfl, ((unhide Q53).at' 2 _ rfl).cell 2 _ rfl⟩ (fun hMore53 => ?_)
      refine wpAnyH_take (i := 9) (v := ?_) rfl (by kernel_rfl) (by kernel_rfl) (by kernel_rfl) (fun _ _ _ h => h) (Or.inl ⟨by rfl, ?_⟩) (by assumption) ?_
      rotate_left
      · intro W0 hSw; (try dsimp only at hSw); go_simp <;> with_reducible rfl
      try simp only [Act.put, List.setIfInBounds_toArray, List.set_cons_zero, List.set_cons_succ]
      refine wpAnyH_take (i := 10) (v := ?_) rfl (by kernel_rfl) (by kernel_rfl) (by kernel_rfl) (fun _ _ _ h => h) (Or.inl ⟨by rfl, ?_⟩) (by assumption) ?_
      rotate_left
      · intro W0 hSw; (try dsimp only at hSw); go_simp <;> with_reducible rfl
      try simp only [Act.put, List.setIfInBounds_toArray, List.set_cons_zero, List.set_cons_succ]
      refine wpAnyH_ready (rs := [11]) (by kernel_rfl) (by simp) ?_
      refine (AllReadyH.cons rfl (fun K hK => ?_) AllReadyH.nil)
      have r54_0 := ((unhide Q53).at' 3 _ rfl).cell 0 _ rfl
      have r54_1 := ((unhide Q53).at' 3 _ rfl).cell 1 _ rfl
      have r54_2 := ((unhide Q53).at' 3 _ rfl).cell 2 _ rfl
      have x54_0 := ((unhide Q53).at' 3 _ rfl).free 0
      have x54_1 := ((unhide Q53).at' 3 _ rfl).free 1
      have x54_2 := ((unhide Q53).at' 3 _ rfl).free 2
      have hne54 : ∀ x ∈ ([(lb51, [.int .i64 10, .int .i64 10, .int .i64 40, .int .i64 256], 2), (lb50, [.int .i64 8, .int .i64 20, .int .i64 8, .int .i64 0], 2), (fb, [.int .i64 wd, .int .i64 ht, .string s], 24)] : List (Nat × List Value × TypeId)), x.1 ≠ w.heap.size := by simp; omega
      have Q54 := hide (((((unhide Q53).db.pick (bs' := (w.heap.size, [.int .i64 0, .int .i64 0, .string ⟨#[]⟩], 24) :: [(lb51, [.int .i64 10, .int .i64 10, .int .i64 40, .int .i64 256], 2), (lb50, [.int .i64 8, .int .i64 20, .int .i64 8, .int .i64 0], 2), (fb, [.int .i64 wd, .int .i64 ht, .string s], 24)]) (by intro x hx; simp only [List.mem_cons, List.not_mem_nil, or_false] at hx; rcases hx with rfl | rfl | rfl | rfl <;> simp)).set hne54 0 (.int .i64 wd)).set hne54 1 (.int .i64 ht)).set hne54 2 (.string s))
      go_simp
      clear r54_0 x54_0 r54_1 x54_1 r54_2 x54_2
      generalize (((w53.setCell ⟨w.heap.size, 0, none⟩ (.int .i64 wd)).setCell ⟨w.heap.size, 1, none⟩ (.int .i64 ht)).setCell ⟨w.heap.size, 2, none⟩ (.string s)) = u54 at Q54 ⊢
      refine hK.out _ _ ?_ (fun hHeld54 => ?_)
      · exact ⟨lit_cellZ ((unhide Q54).at' 2 _ rfl) (by simp) hi53n hzb, lit_cellZ ((unhide Q54).at' 1 _ rfl) (by simp) hi52n hza, ((unhide Q54).at' 3 _ rfl).cell 0 _ rfl, ((unhide Q54).at' 3 _ rfl).cell 1 _ rfl, ((unhide Q54).at' 3 _ rfl).cell 2 _ rfl⟩
      clear hK K
      refine wpAnyH_take (i := 12) (v := ?_) rfl (by kernel_rfl) (by kernel_rfl) (by kernel_rfl) (fun _ _ _ h => h) (Or.inl ⟨by rfl, ?_⟩) (by assumption) ?_
      rotate_left
      · intro W0 hSw; (try dsimp only at hSw); go_simp <;> with_reducible rfl
      try simp only [Act.put, List.setIfInBounds_toArray, List.set_cons_zero, List.set_cons_succ]
      refine wpAnyH_take (i := 13) (v := ?_) rfl (by kernel_rfl) (by kernel_rfl) (by kernel_rfl) (fun _ _ _ h => h) (Or.inl ⟨by rfl, ?_⟩) (by assumption) ?_
      rotate_left
      · intro W0 hSw; (try dsimp only at hSw); go_simp <;> with_reducible rfl
      try simp only [Act.put, List.setIfInBounds_toArray, List.set_cons_zero, List.set_cons_succ]
      refine wpAnyH_done (by kernel_rfl) ?_ _
      have y0_0 := ((unhide Q54).at' 0 _ rfl).cell 0 _ rfl
      have y0_1 := ((unhide Q54).at' 0 _ rfl).cell 1 _ rfl
      have y0_2 := ((unhide Q54).at' 0 _ rfl).cell 2 _ rfl
      go_wp2_with fail
      exact bodyPost_ret (v := .tuple #[.agg #[.int .i64 wd, .int .i64 ht, .string s], .int .i64 za, .int .i64 zb]) (by simp [results, Try.results19, go_sem, y0_0, y0_1, y0_2]) rfl ⟨⟨_, _, _, hs, _, _, rfl⟩, (unhide Q54).bel⟩
    · go_simp
      refine (n_any sb 4 _ (unhide Q50).src (by omega)).mono ?_
      rintro e w55 ⟨k55, rfl, hk55a, hk55b, _, hS55, hg55⟩
      have Q55 := hide ((unhide Q50).call hS55 hg55)
      clear hS55 hg55
      obtain ⟨i55, hi55⟩ := Int.eq_ofNat_of_zero_le hk55a
      have hk55c := hk55b (by omega)
      subst hi55
      have hi55n : i55 < 4 := by omega
      have hi55m : (i55 : Int) < 4 := by omega
      refine hK.out _ _ ?_ (fun hHeld55 => ?_)
      · exact ⟨((unhide Q55).at' 1 _ rfl).cell 0 _ rfl, ((unhide Q55).at' 1 _ rfl).cell 1 _ rfl, ((unhide Q55).at' 1 _ rfl).cell 2 _ rfl⟩
      clear hK K
      refine wpAnyH_ready (rs := [1, 8]) (by kernel_rfl) (by simp) ?_
      refine (AllReadyH.cons rfl (fun K hK => ?_) (AllReadyH.cons rfl (fun K hK => ?_) AllReadyH.nil))
      · go_simp
        have Q56 := hide ((unhide Q55).alloc [.int .i64 10, .int .i64 10, .int .i64 40, .int .i64 256] 2)
        have hlw56 := ((unhide Q55).at' 1 _ rfl).lt
        have hls56 := ((unhide Q55).at' 0 _ rfl).lt
        generalize w55.alloc (.cells #[.int .i64 10, .int .i64 10, .int .i64 40, .int .i64 256] 2) = v56 at Q56 ⊢
        generalize w55.heap.size = lb56 at *
        refine hK.out _ _ ?_ (fun hHeld56 => ?_)
        · exact ⟨((unhide Q56).at' 2 _ rfl).cell 0 _ rfl, ((unhide Q56).at' 2 _ rfl).cell 1 _ rfl, ((unhide Q56).at' 2 _ rfl).cell 2 _ rfl⟩
        clear hK K
        obtain ⟨za, hza⟩ : ∃ z, litZ [.int .i64 10, .int .i64 10, .int .i64 40, .int .i64 256] i55 = z := ⟨_, rfl⟩
        refine wpAnyH_more (S' := (fun w' => w'.cell? ⟨lb56, i55, none⟩ = some (.int .i64 za) ∧ w'.cell? ⟨fb, 0, none⟩ = some (.int .i64 wd) ∧ w'.cell? ⟨fb, 1, none⟩ = some (.int .i64 ht) ∧ w'.cell? ⟨fb, 2, none⟩ = some (.string s))) (fun _ h => h.2) ⟨lit_cellZ ((unhide Q56).at' 0 _ rfl) (by simp) hi55n hza, ((unhide Q56).at' 2 _ rfl).cell 0 _ rfl, ((unhide Q56).at' 2 _ rfl).cell 1 _ rfl, ((unhide Q56).at' 2 _ rfl).cell 2 _ rfl⟩ (fun hMore56 => ?_)
        refine wpAnyH_take (i := 4) (v := ?_) rfl (by kernel_rfl) (by kernel_rfl) (by kernel_rfl) (fun _ _ _ h => h) (Or.inl ⟨by rfl, ?_⟩) (by assumption) ?_
        rotate_left
        · intro W0 hSw; (try dsimp only at hSw); go_simp <;> with_reducible rfl
        try simp only [Act.put, List.setIfInBounds_toArray, List.set_cons_zero, List.set_cons_succ]
        refine wpAnyH_take (i := 5) (v := ?_) rfl (by kernel_rfl) (by kernel_rfl) (by kernel_rfl) (fun _ _ _ h => h) (Or.inl ⟨by rfl, ?_⟩) (by assumption) ?_
        rotate_left
        · intro W0 hSw; (try dsimp only at hSw); go_simp <;> with_reducible rfl
        try simp only [Act.put, List.setIfInBounds_toArray, List.set_cons_zero, List.set_cons_succ]
        refine wpAnyH_ready (rs := [8]) (by kernel_rfl) (by simp) ?_
        refine (AllReadyH.cons rfl (fun K hK => ?_) AllReadyH.nil)
        go_simp
        refine (n_any sb 4 _ (unhide Q56).src (by omega)).mono ?_
        rintro e w57 ⟨k57, rfl, hk57a, hk57b, _, hS57, hg57⟩
        have Q57 := hide ((unhide Q56).call hS57 hg57)
        clear hS57 hg57
        obtain ⟨i57, hi57⟩ := Int.eq_ofNat_of_zero_le hk57a
        have hk57c := hk57b (by omega)
        subst hi57
        have hi57n : i57 < 4 := by omega
        have hi57m : (i57 : Int) < 4 := by omega
        refine hK.out _ _ ?_ (fun hHeld57 => ?_)
        · exact ⟨lit_cellZ ((unhide Q57).at' 0 _ rfl) (by simp) hi55n hza, ((unhide Q57).at' 2 _ rfl).cell 0 _ rfl, ((unhide Q57).at' 2 _ rfl).cell 1 _ rfl, ((unhide Q57).at' 2 _ rfl).cell 2 _ rfl⟩
        clear hK K
        obtain ⟨zb, hzb⟩ : ∃ z, litZ [.int .i64 8, .int .i64 20, .int .i64 8, .int .i64 0] i57 = z := ⟨_, rfl⟩
        refine wpAnyH_more (S' := (fun w' => w'.cell? ⟨lb50, i57, none⟩ = some (.int .i64 zb) ∧ w'.cell? ⟨lb56, i55, none⟩ = some (.int .i64 za) ∧ w'.cell? ⟨fb, 0, none⟩ = some (.int .i64 wd) ∧ w'.cell? ⟨fb, 1, none⟩ = some (.int .i64 ht) ∧ w'.cell? ⟨fb, 2, none⟩ = some (.string s))) (fun _ h => h.2) ⟨lit_cellZ ((unhide Q57).at' 1 _ rfl) (by simp) hi57n hzb, lit_cellZ ((unhide Q57).at' 0 _ rfl) (by simp) hi55n hza, ((unhide Q57).at' 2 _ rfl).cell 0 _ rfl, ((unhide Q57).at' 2 _ rfl).cell 1 _ rfl, ((unhide Q57).at' 2 _ rfl).cell 2 _ rfl⟩ (fun hMore57 => ?_)
        refine wpAnyH_take (i := 9) (v := ?_) rfl (by kernel_rfl) (by kernel_rfl) (by kernel_rfl) (fun _ _ _ h => h) (Or.inl ⟨by rfl, ?_⟩) (by assumption) ?_
        rotate_left
        · intro W0 hSw; (try dsimp only at hSw); go_simp <;> with_reducible rfl
        try simp only [Act.put, List.setIfInBounds_toArray, List.set_cons_zero, List.set_cons_succ]
        refine wpAnyH_take (i := 10) (v := ?_) rfl (by kernel_rfl) (by kernel_rfl) (by kernel_rfl) (fun _ _ _ h => h) (Or.inl ⟨by rfl, ?_⟩) (by assumption) ?_
        rotate_left
        · intro W0 hSw; (try dsimp only at hSw); go_simp <;> with_reducible rfl
        try simp only [Act.put, List.setIfInBounds_toArray, List.set_cons_zero, List.set_cons_succ]
        refine wpAnyH_ready (rs := [11]) (by kernel_rfl) (by simp) ?_
        refine (AllReadyH.cons rfl (fun K hK => ?_) AllReadyH.nil)
        have r58_0 := ((unhide Q57).at' 3 _ rfl).cell 0 _ rfl
        have r58_1 := ((unhide Q57).at' 3 _ rfl).cell 1 _ rfl
        have r58_2 := ((unhide Q57).at' 3 _ rfl).cell 2 _ rfl
        have x58_0 := ((unhide Q57).at' 3 _ rfl).free 0
        have x58_1 := ((unhide Q57).at' 3 _ rfl).free 1
        have x58_2 := ((unhide Q57).at' 3 _ rfl).free 2
        have hne58 : ∀ x ∈ ([(lb56, [.int .i64 10, .int .i64 10, .int .i64 40, .int .i64 256], 2), (lb50, [.int .i64 8, .int .i64 20, .int .i64 8, .int .i64 0], 2), (fb, [.int .i64 wd, .int .i64 ht, .string s], 24)] : List (Nat × List Value × TypeId)), x.1 ≠ w.heap.size := by simp; omega
        have Q58 := hide (((((unhide Q57).db.pick (bs' := (w.heap.size, [.int .i64 0, .int .i64 0, .string ⟨#[]⟩], 24) :: [(lb56, [.int .i64 10, .int .i64 10, .int .i64 40, .int .i64 256], 2), (lb50, [.int .i64 8, .int .i64 20, .int .i64 8, .int .i64 0], 2), (fb, [.int .i64 wd, .int .i64 ht, .string s], 24)]) (by intro x hx; simp only [List.mem_cons, List.not_mem_nil, or_false] at hx; rcases hx with rfl | rfl | rfl | rfl <;> simp)).set hne58 0 (.int .i64 wd)).set hne58 1 (.int .i64 ht)).set hne58 2 (.string s))
        go_simp
        clear r58_0 x58_0 r58_1 x58_1 r58_2 x58_2
        generalize (((w57.setCell ⟨w.heap.size, 0, none⟩ (.int .i64 wd)).setCell ⟨w.heap.size, 1, none⟩ (.int .i64 ht)).setCell ⟨w.heap.size, 2, none⟩ (.string s)) = u58 at Q58 ⊢
        refine hK.out _ _ ?_ (fun hHeld58 => ?_)
        · exact ⟨lit_cellZ ((unhide Q58).at' 2 _ rfl) (by simp) hi57n hzb, lit_cellZ ((unhide Q58).at' 1 _ rfl) (by simp) hi55n hza, ((unhide Q58).at' 3 _ rfl).cell 0 _ rfl, ((unhide Q58).at' 3 _ rfl).cell 1 _ rfl, ((unhide Q58).at' 3 _ rfl).cell 2 _ rfl⟩
        clear hK K
        refine wpAnyH_take (i := 12) (v := ?_) rfl (by kernel_rfl) (by kernel_rfl) (by kernel_rfl) (fun _ _ _ h => h) (Or.inl ⟨by rfl, ?_⟩) (by assumption) ?_
        rotate_left
        · intro W0 hSw; (try dsimp only at hSw); go_simp <;> with_reducible rfl
        try simp only [Act.put, List.setIfInBounds_toArray, List.set_cons_zero, List.set_cons_succ]
        refine wpAnyH_take (i := 13) (v := ?_) rfl (by kernel_rfl) (by kernel_rfl) (by kernel_rfl) (fun _ _ _ h => h) (Or.inl ⟨by rfl, ?_⟩) (by assumption) ?_
        rotate_left
        · intro W0 hSw; (try dsimp only at hSw); go_simp <;> with_reducible rfl
        try simp only [Act.put, List.setIfInBounds_toArray, List.set_cons_zero, List.set_cons_succ]
        refine wpAnyH_done (by kernel_rfl) ?_ _
        have y0_0 := ((unhide Q58).at' 0 _ rfl).cell 0 _ rfl
        have y0_1 := ((unhide Q58).at' 0 _ rfl).cell 1 _ rfl
        have y0_2 := ((unhide Q58).at' 0 _ rfl).cell 2 _ rfl
        go_wp2_with fail
        exact bodyPost_ret (v := .tuple #[.agg #[.int .i64 wd, .int .i64 ht, .string s], .int .i64 za, .int .i64 zb]) (by simp [results, Try.results19, go_sem, y0_0, y0_1, y0_2]) rfl ⟨⟨_, _, _, hs, _, _, rfl⟩, (unhide Q58).bel⟩
      · go_simp
        refine (n_any sb 4 _ (unhide Q55).src (by omega)).mono ?_
        rintro e w59 ⟨k59, rfl, hk59a, hk59b, _, hS59, hg59⟩
        have Q59 := hide ((unhide Q55).call hS59 hg59)
        clear hS59 hg59
        obtain ⟨i59, hi59⟩ := Int.eq_ofNat_of_zero_le hk59a
        have hk59c := hk59b (by omega)
        subst hi59
        have hi59n : i59 < 4 := by omega
        have hi59m : (i59 : Int) < 4 := by omega
        refine hK.out _ _ ?_ (fun hHeld59 => ?_)
        · exact ⟨((unhide Q59).at' 1 _ rfl).cell 0 _ rfl, ((unhide Q59).at' 1 _ rfl).cell 1 _ rfl, ((unhide Q59).at' 1 _ rfl).cell 2 _ rfl⟩
        clear hK K
        obtain ⟨zb, hzb⟩ : ∃ z, litZ [.int .i64 8, .int .i64 20, .int .i64 8, .int .i64 0] i59 = z := ⟨_, rfl⟩
        refine wpAnyH_more (S' := (fun w' => w'.cell? ⟨lb50, i59, none⟩ = some (.int .i64 zb) ∧ w'.cell? ⟨fb, 0, none⟩ = some (.int .i64 wd) ∧ w'.cell? ⟨fb, 1, none⟩ = some (.int .i64 ht) ∧ w'.cell? ⟨fb, 2, none⟩ = some (.string s))) (fun _ h => h.2) ⟨lit_cellZ ((unhide Q59).at' 0 _ rfl) (by simp) hi59n hzb, ((unhide Q59).at' 1 _ rfl).cell 0 _ rfl, ((unhide Q59).at' 1 _ rfl).cell 1 _ rfl, ((unhide Q59).at' 1 _ rfl).cell 2 _ rfl⟩ (fun hMore59 => ?_)
        refine wpAnyH_take (i := 9) (v := ?_) rfl (by kernel_rfl) (by kernel_rfl) (by kernel_rfl) (fun _ _ _ h => h) (Or.inl ⟨by rfl, ?_⟩) (by assumption) ?_
        rotate_left
        · intro W0 hSw; (try dsimp only at hSw); go_simp <;> with_reducible rfl
        try simp only [Act.put, List.setIfInBounds_toArray, List.set_cons_zero, List.set_cons_succ]
        refine wpAnyH_take (i := 10) (v := ?_) rfl (by kernel_rfl) (by kernel_rfl) (by kernel_rfl) (fun _ _ _ h => h) (Or.inl ⟨by rfl, ?_⟩) (by assumption) ?_
        rotate_left
        · intro W0 hSw; (try dsimp only at hSw); go_simp <;> with_reducible rfl
        try simp only [Act.put, List.setIfInBounds_toArray, List.set_cons_zero, List.set_cons_succ]
        refine wpAnyH_ready (rs := [1, 11]) (by kernel_rfl) (by simp) ?_
        refine (AllReadyH.cons rfl (fun K hK => ?_) (AllReadyH.cons rfl (fun K hK => ?_) AllReadyH.nil))
        · go_simp
          have Q60 := hide ((unhide Q59).alloc [.int .i64 10, .int .i64 10, .int .i64 40, .int .i64 256] 2)
          have hlw60 := ((unhide Q59).at' 1 _ rfl).lt
          have hls60 := ((unhide Q59).at' 0 _ rfl).lt
          generalize w59.alloc (.cells #[.int .i64 10, .int .i64 10, .int .i64 40, .int .i64 256] 2) = v60 at Q60 ⊢
          generalize w59.heap.size = lb60 at *
          refine hK.out _ _ ?_ (fun hHeld60 => ?_)
          · exact ⟨lit_cellZ ((unhide Q60).at' 1 _ rfl) (by simp) hi59n hzb, ((unhide Q60).at' 2 _ rfl).cell 0 _ rfl, ((unhide Q60).at' 2 _ rfl).cell 1 _ rfl, ((unhide Q60).at' 2 _ rfl).cell 2 _ rfl⟩
          clear hK K
          obtain ⟨za, hza⟩ : ∃ z, litZ [.int .i64 10, .int .i64 10, .int .i64 40, .int .i64 256] i55 = z := ⟨_, rfl⟩
          refine wpAnyH_more (S' := (fun w' => w'.cell? ⟨lb60, i55, none⟩ = some (.int .i64 za) ∧ w'.cell? ⟨lb50, i59, none⟩ = some (.int .i64 zb) ∧ w'.cell? ⟨fb, 0, none⟩ = some (.int .i64 wd) ∧ w'.cell? ⟨fb, 1, none⟩ = some (.int .i64 ht) ∧ w'.cell? ⟨fb, 2, none⟩ = some (.string s))) (fun _ h => h.2) ⟨lit_cellZ ((unhide Q60).at' 0 _ rfl) (by simp) hi55n hza, lit_cellZ ((unhide Q60).at' 1 _ rfl) (by simp) hi59n hzb, ((unhide Q60).at' 2 _ rfl).cell 0 _ rfl, ((unhide Q60).at' 2 _ rfl).cell 1 _ rfl, ((unhide Q60).at' 2 _ rfl).cell 2 _ rfl⟩ (fun hMore60 => ?_)
          refine wpAnyH_take (i := 4) (v := ?_) rfl (by kernel_rfl) (by kernel_rfl) (by kernel_rfl) (fun _ _ _ h => h) (Or.inl ⟨by rfl, ?_⟩) (by assumption) ?_
          rotate_left
          · intro W0 hSw; (try dsimp only at hSw); go_simp <;> with_reducible rfl
          try simp only [Act.put, List.setIfInBounds_toArray, List.set_cons_zero, List.set_cons_succ]
          refine wpAnyH_take (i := 5) (v := ?_) rfl (by kernel_rfl) (by kernel_rfl) (by kernel_rfl) (fun _ _ _ h => h) (Or.inl ⟨by rfl, ?_⟩) (by assumption) ?_
          rotate_left
          · intro W0 hSw; (try dsimp only at hSw); go_simp <;> with_reducible rfl
          try simp only [Act.put, List.setIfInBounds_toArray, List.set_cons_zero, List.set_cons_succ]
          refine wpAnyH_ready (rs := [11]) (by kernel_rfl) (by simp) ?_
          refine (AllReadyH.cons rfl (fun K hK => ?_) AllReadyH.nil)
          have r61_0 := ((unhide Q60).at' 3 _ rfl).cell 0 _ rfl
          have r61_1 := ((unhide Q60).at' 3 _ rfl).cell 1 _ rfl
          have r61_2 := ((unhide Q60).at' 3 _ rfl).cell 2 _ rfl
          have x61_0 := ((unhide Q60).at' 3 _ rfl).free 0
          have x61_1 := ((unhide Q60).at' 3 _ rfl).free 1
          have x61_2 := ((unhide Q60).at' 3 _ rfl).free 2
          have hne61 : ∀ x ∈ ([(lb60, [.int .i64 10, .int .i64 10, .int .i64 40, .int .i64 256], 2), (lb50, [.int .i64 8, .int .i64 20, .int .i64 8, .int .i64 0], 2), (fb, [.int .i64 wd, .int .i64 ht, .string s], 24)] : List (Nat × List Value × TypeId)), x.1 ≠ w.heap.size := by simp; omega
          have Q61 := hide (((((unhide Q60).db.pick (bs' := (w.heap.size, [.int .i64 0, .int .i64 0, .string ⟨#[]⟩], 24) :: [(lb60, [.int .i64 10, .int .i64 10, .int .i64 40, .int .i64 256], 2), (lb50, [.int .i64 8, .int .i64 20, .int .i64 8, .int .i64 0], 2), (fb, [.int .i64 wd, .int .i64 ht, .string s], 24)]) (by intro x hx; simp only [List.mem_cons, List.not_mem_nil, or_false] at hx; rcases hx with rfl | rfl | rfl | rfl <;> simp)).set hne61 0 (.int .i64 wd)).set hne61 1 (.int .i64 ht)).set hne61 2 (.string s))
          go_simp
          clear r61_0 x61_0 r61_1 x61_1 r61_2 x61_2
          generalize (((v60.setCell ⟨w.heap.size, 0, none⟩ (.int .i64 wd)).setCell ⟨w.heap.size, 1, none⟩ (.int .i64 ht)).setCell ⟨w.heap.size, 2, none⟩ (.string s)) = u61 at Q61 ⊢
          refine hK.out _ _ ?_ (fun hHeld61 => ?_)
          · exact ⟨lit_cellZ ((unhide Q61).at' 1 _ rfl) (by simp) hi55n hza, lit_cellZ ((unhide Q61).at' 2 _ rfl) (by simp) hi59n hzb, ((unhide Q61).at' 3 _ rfl).cell 0 _ rfl, ((unhide Q61).at' 3 _ rfl).cell 1 _ rfl, ((unhide Q61).at' 3 _ rfl).cell 2 _ rfl⟩
          clear hK K
          refine wpAnyH_take (i := 12) (v := ?_) rfl (by kernel_rfl) (by kernel_rfl) (by kernel_rfl) (fun _ _ _ h => h) (Or.inl ⟨by rfl, ?_⟩) (by assumption) ?_
          rotate_left
          · intro W0 hSw; (try dsimp only at hSw); go_simp <;> with_reducible rfl
          try simp only [Act.put, List.setIfInBounds_toArray, List.set_cons_zero, List.set_cons_succ]
          refine wpAnyH_take (i := 13) (v := ?_) rfl (by kernel_rfl) (by kernel_rfl) (by kernel_rfl) (fun _ _ _ h => h) (Or.inl ⟨by rfl, ?_⟩) (by assumption) ?_
          rotate_left
          · intro W0 hSw; (try dsimp only at hSw); go_simp <;> with_reducible rfl
          try simp only [Act.put, List.setIfInBounds_toArray, List.set_cons_zero, List.set_cons_succ]
          refine wpAnyH_done (by kernel_rfl) ?_ _
          have y0_0 := ((unhide Q61).at' 0 _ rfl).cell 0 _ rfl
          have y0_1 := ((unhide Q61).at' 0 _ rfl).cell 1 _ rfl
          have y0_2 := ((unhide Q61).at' 0 _ rfl).cell 2 _ rfl
          go_wp2_with fail
          exact bodyPost_ret (v := .tuple #[.agg #[.int .i64 wd, .int .i64 ht, .string s], .int .i64 za, .int .i64 zb]) (by simp [results, Try.results19, go_sem, y0_0, y0_1, y0_2]) rfl ⟨⟨_, _, _, hs, _, _, rfl⟩, (unhide Q61).bel⟩
        · have r62_0 := ((unhide Q59).at' 2 _ rfl).cell 0 _ rfl
          have r62_1 := ((unhide Q59).at' 2 _ rfl).cell 1 _ rfl
          have r62_2 := ((unhide Q59).at' 2 _ rfl).cell 2 _ rfl
          have x62_0 := ((unhide Q59).at' 2 _ rfl).free 0
          have x62_1 := ((unhide Q59).at' 2 _ rfl).free 1
          have x62_2 := ((unhide Q59).at' 2 _ rfl).free 2
          have hne62 : ∀ x ∈ ([(lb50, [.int .i64 8, .int .i64 20, .int .i64 8, .int .i64 0], 2), (fb, [.int .i64 wd, .int .i64 ht, .string s], 24)] : List (Nat × List Value × TypeId)), x.1 ≠ w.heap.size := by simp; omega
          have Q62 := hide (((((unhide Q59).db.pick (bs' := (w.heap.size, [.int .i64 0, .int .i64 0, .string ⟨#[]⟩], 24) :: [(lb50, [.int .i64 8, .int .i64 20, .int .i64 8, .int .i64 0], 2), (fb, [.int .i64 wd, .int .i64 ht, .string s], 24)]) (by intro x hx; simp only [List.mem_cons, List.not_mem_nil, or_false] at hx; rcases hx with rfl | rfl | rfl <;> simp)).set hne62 0 (.int .i64 wd)).set hne62 1 (.int .i64 ht)).set hne62 2 (.string s))
          go_simp
          clear r62_0 x62_0 r62_1 x62_1 r62_2 x62_2
          generalize (((w59.setCell ⟨w.heap.size, 0, none⟩ (.int .i64 wd)).setCell ⟨w.heap.size, 1, none⟩ (.int .i64 ht)).setCell ⟨w.heap.size, 2, none⟩ (.string s)) = u62 at Q62 ⊢
          refine hK.out _ _ ?_ (fun hHeld62 => ?_)
          · exact ⟨lit_cellZ ((unhide Q62).at' 1 _ rfl) (by simp) hi59n hzb, ((unhide Q62).at' 2 _ rfl).cell 0 _ rfl, ((unhide Q62).at' 2 _ rfl).cell 1 _ rfl, ((unhide Q62).at' 2 _ rfl).cell 2 _ rfl⟩
          clear hK K
          refine wpAnyH_ready (rs := [1]) (by kernel_rfl) (by simp) ?_
          refine (AllReadyH.cons rfl (fun K hK => ?_) AllReadyH.nil)
          go_simp
          have Q63 := hide ((unhide Q62).alloc [.int .i64 10, .int .i64 10, .int .i64 40, .int .i64 256] 2)
          have hlw63 := ((unhide Q62).at' 2 _ rfl).lt
          have hls63 := ((unhide Q62).at' 1 _ rfl).lt
          generalize u62.alloc (.cells #[.int .i64 10, .int .i64 10, .int .i64 40, .int .i64 256] 2) = v63 at Q63 ⊢
          generalize u62.heap.size = lb63 at *
          refine hK.out _ _ ?_ (fun hHeld63 => ?_)
          · exact ⟨lit_cellZ ((unhide Q63).at' 2 _ rfl) (by simp) hi59n hzb, ((unhide Q63).at' 3 _ rfl).cell 0 _ rfl, ((unhide Q63).at' 3 _ rfl).cell 1 _ rfl, ((unhide Q63).at' 3 _ rfl).cell 2 _ rfl⟩
          clear hK K
          obtain ⟨za, hza⟩ : ∃ z, litZ [.int .i64 10, .int .i64 10, .int .i64 40, .int .i64 256] i55 = z := ⟨_, rfl⟩
          refine wpAnyH_more (S' := (fun w' => w'.cell? ⟨lb63, i55, none⟩ = some (.int .i64 za) ∧ w'.cell? ⟨lb50, i59, none⟩ = some (.int .i64 zb) ∧ w'.cell? ⟨fb, 0, none⟩ = some (.int .i64 wd) ∧ w'.cell? ⟨fb, 1, none⟩ = some (.int .i64 ht) ∧ w'.cell? ⟨fb, 2, none⟩ = some (.string s))) (fun _ h => h.2) ⟨lit_cellZ ((unhide Q63).at' 0 _ rfl) (by simp) hi55n hza, lit_cellZ ((unhide Q63).at' 2 _ rfl) (by simp) hi59n hzb, ((unhide Q63).at' 3 _ rfl).cell 0 _ rfl, ((unhide Q63).at' 3 _ rfl).cell 1 _ rfl, ((unhide Q63).at' 3 _ rfl).cell 2 _ rfl⟩ (fun hMore63 => ?_)
          refine wpAnyH_take (i := 4) (v := ?_) rfl (by kernel_rfl) (by kernel_rfl) (by kernel_rfl) (fun _ _ _ h => h) (Or.inl ⟨by rfl, ?_⟩) (by assumption) ?_
          rotate_left
          · intro W0 hSw; (try dsimp only at hSw); go_simp <;> with_reducible rfl
          try simp only [Act.put, List.setIfInBounds_toArray, List.set_cons_zero, List.set_cons_succ]
          refine wpAnyH_take (i := 5) (v := ?_) rfl (by kernel_rfl) (by kernel_rfl) (by kernel_rfl) (fun _ _ _ h => h) (Or.inl ⟨by rfl, ?_⟩) (by assumption) ?_
          rotate_left
          · intro W0 hSw; (try dsimp only at hSw); go_simp <;> with_reducible rfl
          try simp only [Act.put, List.setIfInBounds_toArray, List.set_cons_zero, List.set_cons_succ]
          refine wpAnyH_take (i := 12) (v := ?_) rfl (by kernel_rfl) (by kernel_rfl) (by kernel_rfl) (fun _ _ _ h => h) (Or.inl ⟨by rfl, ?_⟩) (by assumption) ?_
          rotate_left
          · intro W0 hSw; (try dsimp only at hSw); go_simp <;> with_reducible rfl
          try simp only [Act.put, List.setIfInBounds_toArray, List.set_cons_zero, List.set_cons_succ]
          refine wpAnyH_take (i := 13) (v := ?_) rfl (by kernel_rfl) (by kernel_rfl) (by kernel_rfl) (fun _ _ _ h => h) (Or.inl ⟨by rfl, ?_⟩) (by assumption) ?_
          rotate_left
          · intro W0 hSw; (try dsimp only at hSw); go_simp <;> with_reducible rfl
          try simp only [Act.put, List.setIfInBounds_toArray, List.set_cons_zero, List.set_cons_succ]
          refine wpAnyH_done (by kernel_rfl) ?_ _
          have y0_0 := ((unhide Q63).at' 1 _ rfl).cell 0 _ rfl
          have y0_1 := ((unhide Q63).at' 1 _ rfl).cell 1 _ rfl
          have y0_2 := ((unhide Q63).at' 1 _ rfl).cell 2 _ rfl
          go_wp2_with fail
          exact bodyPost_ret (v := .tuple #[.agg #[.int .i64 wd, .int .i64 ht, .string s], .int .i64 za, .int .i64 zb]) (by simp [results, Try.results19, go_sem, y0_0, y0_1, y0_2]) rfl ⟨⟨_, _, _, hs, _, _, rfl⟩, (unhide Q63).bel⟩
end Go.Proofs.Ytmacbegchdjdnaa
