/- Why a star may not stand behind those ahead of it: the program's. -/
import Derived.Test.YtofpjlhoppofdaaGreatDoorSkyB
import Derived.Lib.QuietBelow
import Derived.BigQuiet
namespace Go.Proofs.YtofpjlhoppofdaaGreatDoor
open Go.RowKit Go.Sort
set_option linter.unusedVariables false

def whyId : ByteArray := ⟨#[97, 110, 32, 73, 100, 32, 105, 115, 32, 110, 111, 116, 32, 49, 32, 116, 111, 32, 57, 57, 57, 57]⟩
def whyUp : ByteArray := ⟨#[116, 104, 101, 32, 73, 100, 115, 32, 97, 114, 101, 32, 110, 111, 116, 32, 114, 105, 115, 105, 110, 103]⟩
def whyAt : ByteArray := ⟨#[97, 32, 115, 116, 97, 114, 32, 105, 115, 32, 97, 116, 32, 110, 111, 32, 115, 109, 97, 108, 108, 32, 100, 105, 114, 101, 99, 116, 105, 111, 110, 32, 116, 104, 97, 116, 32, 105, 115, 32, 105, 116, 115, 32, 111, 119, 110, 32, 112, 114, 105, 109, 101]⟩
def whyTwo : ByteArray := ⟨#[116, 119, 111, 32, 115, 116, 97, 114, 115, 32, 97, 114, 101, 32, 116, 104, 101, 32, 115, 97, 109, 101, 32, 119, 97, 121]⟩
def whyMany : ByteArray := ⟨#[116, 104, 101, 114, 101, 32, 97, 114, 101, 32, 116, 111, 111, 32, 109, 97, 110, 121, 32, 115, 116, 97, 114, 115]⟩
def faultA (why : ByteArray) : Value := .iface 200 (.agg #[.string why])
/-- what the program tells of the star at place i -/
def whyV (L : List St) (i : Nat) : Value :=
  if idB (stA L i).1 = false then faultA whyId else if upB L i = false then faultA whyUp
  else if (smallB (stA L i).2.1 (stA L i).2.2.1 (stA L i).2.2.2 && primeB (stA L i).2.1 (stA L i).2.2.1 (stA L i).2.2.2) = false then faultA whyAt
  else if takenB L (stA L i) i = true then faultA whyTwo else .nilIface
theorem whyV_ok {L : List St} {i : Nat} (h : okAt L i = true) : whyV L i = .nilIface := by
  unfold okAt at h
  simp only [Bool.and_eq_true, Bool.not_eq_true'] at h
  obtain ⟨⟨⟨h1, h2⟩, h3, h4⟩, h5⟩ := h
  unfold whyV
  simp [h1, h2, h3, h4, h5]
theorem whyV_no {L : List St} {i : Nat} (h : okAt L i = false) : ∃ why, whyV L i = faultA why := by
  unfold whyV
  split
  · exact ⟨_, rfl⟩
  · split
    · exact ⟨_, rfl⟩
    · split
      · exact ⟨_, rfl⟩
      · split
        · exact ⟨_, rfl⟩
        · rename_i h1 h2 h3 h4
          exfalso
          simp only [Bool.not_eq_false, Bool.not_eq_true] at h1 h2 h3 h4
          unfold okAt at h
          rw [h1, h2, h3, h4] at h
          simp at h

/-- a star's cells at a block of its own -/
theorem starAt_new (w : World) (s : St) (t : TypeId) : StarAt (w.alloc (.cells #[.int .i64 s.1, .int .i64 s.2.1, .int .i64 s.2.2.1, .int .i64 s.2.2.2] t)) w.heap.size 0 s := by
  refine ⟨?_, ?_, ?_, ?_⟩ <;> simp

set_option maxHeartbeats 2000000 in
set_option maxRecDepth 100000 in
theorem whyNoStar_any (L : List St) (i : Nat) (s1 s2 s3 s4 : Int) (a : Option Addr) (c : Nat) (w : World) (hi : i ≤ 1048576) (hs : stA L i = (s1, s2, s3, s4)) (hS : Stars w a L i) :
    Calls Tryz.prog 158 #[.agg #[.int .i64 s1, .int .i64 s2, .int .i64 s3, .int .i64 s4], .slice a i c] w fun e w' => e = .returned (whyV L i) ∧ Below w.heap.size w w' := by
  have HS := hide hs
  clear hs
  have HA := hide hS
  clear hS
  have HB := hide (below1 w (.cells #[.int .i64 s1, .int .i64 s2, .int .i64 s3, .int .i64 s4] 78))
  have HN := hide (starAt_new w (s1, s2, s3, s4) 78)
  by_cases h1 : s1 < 1
  · have HO : Hid (whyV L i = faultA whyId) := hide (by unfold whyV; rw [if_pos (by rw [unhide HS]; unfold idB; simp; omega)])
    go_enter Tryz.func158, Tryz.ntmps158
    go_wp2
    go_ret
    exact ⟨by rw [unhide HO]; rfl, unhide HB⟩
  by_cases h2 : 9999 < s1
  · have HO : Hid (whyV L i = faultA whyId) := hide (by unfold whyV; rw [if_pos (by rw [unhide HS]; unfold idB; simp; omega)])
    go_enter Tryz.func158, Tryz.ntmps158
    go_wp2
    go_ret
    exact ⟨by rw [unhide HO]; rfl, unhide HB⟩
  have K0 : Hid (¬ idB (stA L i).1 = false) := hide (by rw [unhide HS]; unfold idB; simp; omega)
  by_cases hu : upB L i = false
  · have HO : Hid (whyV L i = faultA whyUp) := hide (by unfold whyV; rw [if_neg (unhide K0), if_pos hu])
    obtain ⟨j, rfl⟩ : ∃ j, i = j + 1 := ⟨i - 1, by unfold upB at hu; simp at hu; omega⟩
    obtain ⟨⟨p1, p2, p3, p4⟩, hp⟩ : ∃ s, stA L j = s := ⟨_, rfl⟩
    have hle : s1 ≤ p1 := by unfold upB at hu; rw [unhide HS] at hu; simp [hp] at hu; omega
    rcases unhide HA with h0 | ⟨b, o, rfl, hb, hc⟩
    · omega
    have hst := (hc j (by omega)).kept hb (unhide HB)
    rw [hp] at hst
    obtain ⟨c0, _, _, _⟩ := hst
    have hj1 : (j : Int) + 1 - 1 = (j : Int) := by omega
    have hj2 : (0 : Int) < (j : Int) + 1 := by omega
    clear hu hp hc
    go_enter Tryz.func158, Tryz.ntmps158
    go_wp2_with fail
    go_quiet (fail)
    go_wp2_with fail
    go_ret
    exact ⟨by rw [unhide HO]; rfl, below_call (unhide HB) (below_drewN _ _)⟩
  have K1 := hide hu
  clear hu
  rcases Nat.eq_zero_or_pos i with hi0 | hi0
  · subst hi0
    go_enter Tryz.func158, Tryz.ntmps158
    go_wp2_with fail
    go_quiet (fail)
    go_wp2_with fail
    have hx := below_call (unhide HB) (below_drewN (w.alloc (.cells #[.int .i64 s1, .int .i64 s2, .int .i64 s3, .int .i64 s4] 78)) nq)
    have hn' := (unhide HN).kept (by simp) (below_drewN _ nq)
    generalize (w.alloc (.cells #[.int .i64 s1, .int .i64 s2, .int .i64 s3, .int .i64 s4] 78)).drewN nq = W1 at hx hn' ⊢
    have HB1 := hide hx
    have HN1 := hide hn'
    clear hx hn' HB HN
    obtain ⟨_, c1, c2, c3⟩ := unhide HN1
    simp only [Nat.zero_add] at c1 c2 c3
    have r1 := cell_regrown c1
    have r2 := cell_regrown c2
    have r3 := cell_regrown c3
    clear c1 c2 c3
    cases hsm : smallB s2 s3 s4
    · have HO : Hid (whyV L 0 = faultA whyAt) := hide (by unfold whyV; rw [if_neg (unhide K0), if_neg (unhide K1), if_pos (by rw [unhide HS]; simp [hsm])])
      have cS : Hid (∀ W : World, Calls Tryz.prog 179 #[.agg #[.int .i64 s2, .int .i64 s3, .int .i64 s4]] W fun e w' => e = .returned (.bool false) ∧ Below W.heap.size W w') := hide (fun W => (isSmall_any s2 s3 s4 W).mono fun e w' h => ⟨by rw [h.1, hsm], h.2⟩)
      clear hsm
      refine wp_region_quiet_below (by kernel_rfl) (by kernel_rfl) ?_
      repeat (quiet_step (first | (with_reducible exact Calls.regrown_of (unhide cS _))))
      refine wpQuiet_nil ?_
      intro _ hw'
      obtain ⟨⟨dq, osq⟩, hw''⟩ := hw'
      subst hw''
      have hx := below_call (unhide HB1) (below_regrown W1 dq osq)
      go_wp2_with fail
      go_ret
      exact ⟨by rw [unhide HO]; rfl, hx⟩
    · have cS : Hid (∀ W : World, Calls Tryz.prog 179 #[.agg #[.int .i64 s2, .int .i64 s3, .int .i64 s4]] W fun e w' => e = .returned (.bool true) ∧ Below W.heap.size W w') := hide (fun W => (isSmall_any s2 s3 s4 W).mono fun e w' h => ⟨by rw [h.1, hsm], h.2⟩)
      have cP := hide (fun W => prime_any s2 s3 s4 W)
      have hq := fun W => neq_vec s2 s3 s4 (prI (rightB s2 s3 s4) (gI s2 s3 s4) s2) (prI (rightB s2 s3 s4) (gI s2 s3 s4) s3) (prI (rightB s2 s3 s4) (gI s2 s3 s4) s4) W
      have hq2 : eqB s2 s3 s4 (prI (rightB s2 s3 s4) (gI s2 s3 s4) s2) (prI (rightB s2 s3 s4) (gI s2 s3 s4) s3) (prI (rightB s2 s3 s4) (gI s2 s3 s4) s4) = primeB s2 s3 s4 := rfl
      rw [hq2] at hq
      clear hq2
      generalize prI (rightB s2 s3 s4) (gI s2 s3 s4) s2 = t2 at cP hq
      generalize prI (rightB s2 s3 s4) (gI s2 s3 s4) s3 = t3 at cP hq
      generalize prI (rightB s2 s3 s4) (gI s2 s3 s4) s4 = t4 at cP hq
      cases hpr : primeB s2 s3 s4
      · have HO : Hid (whyV L 0 = faultA whyAt) := hide (by unfold whyV; rw [if_neg (unhide K0), if_neg (unhide K1), if_pos (by rw [unhide HS]; simp [hpr])])
        rw [hpr] at hq
        refine wp_region_quiet_below (by kernel_rfl) (by kernel_rfl) ?_
        repeat (quiet_step (first | (with_reducible exact Calls.regrown_of (unhide cS _)) | (with_reducible exact Calls.regrown_of (unhide cP _))))
        refine wpQuiet_nil ?_
        intro _ hw'
        obtain ⟨⟨dq, osq⟩, hw''⟩ := hw'
        subst hw''
        have hx := below_regrown W1 dq osq
        replace hx := below_call (unhide HB1) hx
        go_wp2_with fail
        go_ret
        exact ⟨by rw [unhide HO]; rfl, hx⟩
      · have K2 : Hid (¬ (smallB (stA L 0).2.1 (stA L 0).2.2.1 (stA L 0).2.2.2 && primeB (stA L 0).2.1 (stA L 0).2.2.1 (stA L 0).2.2.2) = false) := hide (by rw [unhide HS]; simp [hsm, hpr])
        clear hsm
        rw [hpr] at hq
        refine wp_region_quiet_below (by kernel_rfl) (by kernel_rfl) ?_
        repeat (quiet_step (first | (with_reducible exact Calls.regrown_of (unhide cS _)) | (with_reducible exact Calls.regrown_of (unhide cP _))))
        refine wpQuiet_nil ?_
        intro _ hw'
        obtain ⟨⟨dq, osq⟩, hw''⟩ := hw'
        subst hw''
        have hx := below_regrown W1 dq osq
        have hn2 := (unhide HN1).kept (World.block_lt_of_cell? _ _ (unhide HN1).1) hx
        have hb2 := below_call (unhide HB1) hx
        generalize grow (redrawn W1 dq) osq = W2 at hx hn2 hb2 ⊢
        have HB2 := hide hb2
        clear hx hb2 r1 r2 r3 hq cS cP HN1 HB1
        obtain ⟨_, c1, c2, c3⟩ := hn2
        simp only [Nat.zero_add] at c1 c2 c3
        go_wp2_with fail
        refine (isTaken_any L 0 s2 s3 s4 _ _ _ hi ((unhide HA).kept (unhide HB2))).mono ?_
        rintro e w3 ⟨rfl, hx⟩
        replace hx := below_call (unhide HB2) hx
        clear HB2 c1 c2 c3
        have ht : takenB L (0, s2, s3, s4) 0 = takenB L (stA L 0) 0 := by rw [unhide HS]; rfl
        rw [ht]
        clear ht
        cases htk : takenB L (stA L 0) 0
        · have HO : Hid (whyV L 0 = .nilIface) := hide (by unfold whyV; rw [if_neg (unhide K0), if_neg (unhide K1), if_neg (unhide K2), if_neg (by rw [htk]; simp)])
          go_wp2_with fail
          go_ret
          exact ⟨by rw [unhide HO]; rfl, hx⟩
        · have HO : Hid (whyV L 0 = faultA whyTwo) := hide (by unfold whyV; rw [if_neg (unhide K0), if_neg (unhide K1), if_neg (unhide K2), if_pos htk])
          go_wp2_with fail
          go_ret
          exact ⟨by rw [unhide HO]; rfl, hx⟩
  · obtain ⟨j, rfl⟩ : ∃ j, i = j + 1 := ⟨i - 1, by omega⟩
    obtain ⟨⟨p1, p2, p3, p4⟩, hp⟩ : ∃ s, stA L j = s := ⟨_, rfl⟩
    have hle : p1 < s1 := by have hu := unhide K1; unfold upB at hu; rw [unhide HS] at hu; simp [hp] at hu; omega
    rcases unhide HA with h0 | ⟨b, o, rfl, hb, hc⟩
    · omega
    have hst := (hc j (by omega)).kept hb (unhide HB)
    rw [hp] at hst
    obtain ⟨c0, _, _, _⟩ := hst
    have hj1 : (j : Int) + 1 - 1 = (j : Int) := by omega
    have hj2 : (0 : Int) < (j : Int) + 1 := by omega
    clear hp hc
    go_enter Tryz.func158, Tryz.ntmps158
    go_wp2_with fail
    go_quiet (fail)
    go_wp2_with fail
    clear c0
    have hx := below_call (unhide HB) (below_drewN (w.alloc (.cells #[.int .i64 s1, .int .i64 s2, .int .i64 s3, .int .i64 s4] 78)) nq)
    have hn' := (unhide HN).kept (by simp) (below_drewN _ nq)
    generalize (w.alloc (.cells #[.int .i64 s1, .int .i64 s2, .int .i64 s3, .int .i64 s4] 78)).drewN nq = W1 at hx hn' ⊢
    have HB1 := hide hx
    have HN1 := hide hn'
    clear hx hn' HB HN
    obtain ⟨_, c1, c2, c3⟩ := unhide HN1
    simp only [Nat.zero_add] at c1 c2 c3
    have r1 := cell_regrown c1
    have r2 := cell_regrown c2
    have r3 := cell_regrown c3
    clear c1 c2 c3
    cases hsm : smallB s2 s3 s4
    · have HO : Hid (whyV L (j + 1) = faultA whyAt) := hide (by unfold whyV; rw [if_neg (unhide K0), if_neg (unhide K1), if_pos (by rw [unhide HS]; simp [hsm])])
      have cS : Hid (∀ W : World, Calls Tryz.prog 179 #[.agg #[.int .i64 s2, .int .i64 s3, .int .i64 s4]] W fun e w' => e = .returned (.bool false) ∧ Below W.heap.size W w') := hide (fun W => (isSmall_any s2 s3 s4 W).mono fun e w' h => ⟨by rw [h.1, hsm], h.2⟩)
      clear hsm
      refine wp_region_quiet_below (by kernel_rfl) (by kernel_rfl) ?_
      repeat (quiet_step (first | (with_reducible exact Calls.regrown_of (unhide cS _))))
      refine wpQuiet_nil ?_
      intro _ hw'
      obtain ⟨⟨dq, osq⟩, hw''⟩ := hw'
      subst hw''
      have hx := below_call (unhide HB1) (below_regrown W1 dq osq)
      go_wp2_with fail
      go_ret
      exact ⟨by rw [unhide HO]; rfl, hx⟩
    · have cS : Hid (∀ W : World, Calls Tryz.prog 179 #[.agg #[.int .i64 s2, .int .i64 s3, .int .i64 s4]] W fun e w' => e = .returned (.bool true) ∧ Below W.heap.size W w') := hide (fun W => (isSmall_any s2 s3 s4 W).mono fun e w' h => ⟨by rw [h.1, hsm], h.2⟩)
      have cP := hide (fun W => prime_any s2 s3 s4 W)
      have hq := fun W => neq_vec s2 s3 s4 (prI (rightB s2 s3 s4) (gI s2 s3 s4) s2) (prI (rightB s2 s3 s4) (gI s2 s3 s4) s3) (prI (rightB s2 s3 s4) (gI s2 s3 s4) s4) W
      have hq2 : eqB s2 s3 s4 (prI (rightB s2 s3 s4) (gI s2 s3 s4) s2) (prI (rightB s2 s3 s4) (gI s2 s3 s4) s3) (prI (rightB s2 s3 s4) (gI s2 s3 s4) s4) = primeB s2 s3 s4 := rfl
      rw [hq2] at hq
      clear hq2
      generalize prI (rightB s2 s3 s4) (gI s2 s3 s4) s2 = t2 at cP hq
      generalize prI (rightB s2 s3 s4) (gI s2 s3 s4) s3 = t3 at cP hq
      generalize prI (rightB s2 s3 s4) (gI s2 s3 s4) s4 = t4 at cP hq
      cases hpr : primeB s2 s3 s4
      · have HO : Hid (whyV L (j + 1) = faultA whyAt) := hide (by unfold whyV; rw [if_neg (unhide K0), if_neg (unhide K1), if_pos (by rw [unhide HS]; simp [hpr])])
        rw [hpr] at hq
        refine wp_region_quiet_below (by kernel_rfl) (by kernel_rfl) ?_
        repeat (quiet_step (first | (with_reducible exact Calls.regrown_of (unhide cS _)) | (with_reducible exact Calls.regrown_of (unhide cP _))))
        refine wpQuiet_nil ?_
        intro _ hw'
        obtain ⟨⟨dq, osq⟩, hw''⟩ := hw'
        subst hw''
        have hx := below_regrown W1 dq osq
        replace hx := below_call (unhide HB1) hx
        go_wp2_with fail
        go_ret
        exact ⟨by rw [unhide HO]; rfl, hx⟩
      · have K2 : Hid (¬ (smallB (stA L (j + 1)).2.1 (stA L (j + 1)).2.2.1 (stA L (j + 1)).2.2.2 && primeB (stA L (j + 1)).2.1 (stA L (j + 1)).2.2.1 (stA L (j + 1)).2.2.2) = false) := hide (by rw [unhide HS]; simp [hsm, hpr])
        clear hsm
        rw [hpr] at hq
        refine wp_region_quiet_below (by kernel_rfl) (by kernel_rfl) ?_
        repeat (quiet_step (first | (with_reducible exact Calls.regrown_of (unhide cS _)) | (with_reducible exact Calls.regrown_of (unhide cP _))))
        refine wpQuiet_nil ?_
        intro _ hw'
        obtain ⟨⟨dq, osq⟩, hw''⟩ := hw'
        subst hw''
        have hx := below_regrown W1 dq osq
        have hn2 := (unhide HN1).kept (World.block_lt_of_cell? _ _ (unhide HN1).1) hx
        have hb2 := below_call (unhide HB1) hx
        generalize grow (redrawn W1 dq) osq = W2 at hx hn2 hb2 ⊢
        have HB2 := hide hb2
        clear hx hb2 r1 r2 r3 hq cS cP HN1 HB1
        obtain ⟨_, c1, c2, c3⟩ := hn2
        simp only [Nat.zero_add] at c1 c2 c3
        go_wp2_with fail
        refine (isTaken_any L (j + 1) s2 s3 s4 _ _ _ hi ((unhide HA).kept (unhide HB2))).mono ?_
        rintro e w3 ⟨rfl, hx⟩
        replace hx := below_call (unhide HB2) hx
        clear HB2 c1 c2 c3
        have ht : takenB L (0, s2, s3, s4) (j + 1) = takenB L (stA L (j + 1)) (j + 1) := by rw [unhide HS]; rfl
        rw [ht]
        clear ht
        cases htk : takenB L (stA L (j + 1)) (j + 1)
        · have HO : Hid (whyV L (j + 1) = .nilIface) := hide (by unfold whyV; rw [if_neg (unhide K0), if_neg (unhide K1), if_neg (unhide K2), if_neg (by rw [htk]; simp)])
          go_wp2_with fail
          go_ret
          exact ⟨by rw [unhide HO]; rfl, hx⟩
        · have HO : Hid (whyV L (j + 1) = faultA whyTwo) := hide (by unfold whyV; rw [if_neg (unhide K0), if_neg (unhide K1), if_neg (unhide K2), if_pos htk])
          go_wp2_with fail
          go_ret
          exact ⟨by rw [unhide HO]; rfl, hx⟩
end Go.Proofs.YtofpjlhoppofdaaGreatDoor
