/- Several texts in one: SkyC, SkyD, SkyE, SkyF, SkyG, SkyI, FrC, PairA. -/
import Derived.Lib.QuietBelow
import Derived.BigQuiet
import Derived.OwnWalk
import Derived.Laws.OwnMore
import Derived.Laws.BytesArg
import Derived.BigRegion
import Derived.Test.YtoakkmjcbnfljaaGreatDoorQFnIdentOwn2
import Derived.Test.YtoakkmjcbnfljaaGreatDoorQFnIdentOwn1
namespace Go.Proofs.YtoakkmjcbnfljaaGreatDoor
set_option linter.unusedVariables false
set_option linter.unusedSimpArgs false
set_option maxRecDepth 100000
set_option maxHeartbeats 8000000
section
open Go.RowKit Go.Sort
def sU : ByteArray := ⟨#[97, 110, 32, 73, 100, 32, 105, 115, 32, 110, 111, 116, 32, 49, 32, 116, 111, 32, 57, 57, 57, 57]⟩
def tU : ByteArray := ⟨#[116, 104, 101, 32, 73, 100, 115, 32, 97, 114, 101, 32, 110, 111, 116, 32, 114, 105, 115, 105, 110, 103]⟩
def pl : ByteArray := ⟨#[97, 32, 115, 116, 97, 114, 32, 105, 115, 32, 97, 116, 32, 110, 111, 32, 115, 109, 97, 108, 108, 32, 100, 105, 114, 101, 99, 116, 105, 111, 110, 32, 116, 104, 97, 116, 32, 105, 115, 32, 105, 116, 115, 32, 111, 119, 110, 32, 112, 114, 105, 109, 101]⟩
def qg : ByteArray := ⟨#[116, 119, 111, 32, 115, 116, 97, 114, 115, 32, 97, 114, 101, 32, 116, 104, 101, 32, 115, 97, 109, 101, 32, 119, 97, 121]⟩
def qJ : ByteArray := ⟨#[116, 104, 101, 114, 101, 32, 97, 114, 101, 32, 116, 111, 111, 32, 109, 97, 110, 121, 32, 115, 116, 97, 114, 115]⟩
def cH (why : ByteArray) : Value := .iface 122 (.agg #[.string why])
def dT (L : List St) (i : Nat) : Value :=
 if idB (stA L i).1 = false then cH sU else if upB L i = false then cH tU
 else if (aH (stA L i).2.1 (stA L i).2.2.1 (stA L i).2.2.2 && dx (stA L i).2.1 (stA L i).2.2.1 (stA L i).2.2.2) = false then cH pl
 else if dm L (stA L i) i = true then cH qg else .nilIface
theorem tH {L : List St} {i : Nat} (h : dn L i = true) : dT L i = .nilIface := by
 unfold dn at h
 simp only [Bool.and_eq_true, Bool.not_eq_true'] at h
 obtain ⟨⟨⟨h1, h2⟩, h3, h4⟩, h5⟩ := h
 unfold dT
 simp [h1, h2, h3, h4, h5]
theorem qK {L : List St} {i : Nat} (h : dn L i = false) : ∃ why, dT L i = cH why := by
 unfold dT
 split
 ·exact ⟨_, rfl⟩
 ·split
  ·exact ⟨_, rfl⟩
  ·split
   ·exact ⟨_, rfl⟩
   ·split
    ·exact ⟨_, rfl⟩
    ·rename_i h1 h2 h3 h4
     exfalso
     simp only [Bool.not_eq_false, Bool.not_eq_true] at h1 h2 h3 h4
     unfold dn at h
     rw [h1, h2, h3, h4] at h
     simp at h
theorem ea (w : World) (s : St) (t : TypeId) : im (w.alloc (.cells #[.int .i64 s.1, .int .i64 s.2.1, .int .i64 s.2.2.1, .int .i64 s.2.2.2] t)) w.heap.size 0 s := by
 refine ⟨?_, ?_, ?_, ?_⟩ <;> simp
theorem md (L : List St) (i : Nat) (s1 s2 s3 s4 : Int) (a : Option Addr) (c : Nat) (w : World) (hi : i ≤ 1048576) (hs : stA L i = (s1, s2, s3, s4)) (hS : aJ w a L i) :
  Calls Tryz.prog 90 #[.agg #[.int .i64 s1, .int .i64 s2, .int .i64 s3, .int .i64 s4], .slice a i c] w fun e w' => e = .returned (dT L i) ∧ Below w.heap.size w w' := by
 have HS := yz hs
 clear hs
 have HA := yz hS
 clear hS
 have HB := yz (ak w (.cells #[.int .i64 s1, .int .i64 s2, .int .i64 s3, .int .i64 s4] 69))
 have HN := yz (ea w (s1, s2, s3, s4) 69)
 by_cases h1 : s1 < 1
 ·have HO : Hid (dT L i = cH sU) := yz (by unfold dT; rw [if_pos (by rw [yy HS]; unfold idB; simp; omega)])
  go_enter Tryz.func90, Tryz.ntmps90
  go_wp2
  go_ret
  exact ⟨by rw [yy HO]; rfl, yy HB⟩
 by_cases h2 : 9999 < s1
 ·have HO : Hid (dT L i = cH sU) := yz (by unfold dT; rw [if_pos (by rw [yy HS]; unfold idB; simp; omega)])
  go_enter Tryz.func90, Tryz.ntmps90
  go_wp2
  go_ret
  exact ⟨by rw [yy HO]; rfl, yy HB⟩
 have K0 : Hid (¬ idB (stA L i).1 = false) := yz (by rw [yy HS]; unfold idB; simp; omega)
 by_cases hu : upB L i = false
 ·have HO : Hid (dT L i = cH tU) := yz (by unfold dT; rw [if_neg (yy K0), if_pos hu])
  obtain ⟨j, rfl⟩ : ∃ j, i = j + 1 := ⟨i - 1, by unfold upB at hu; simp at hu; omega⟩
  obtain ⟨⟨p1, p2, p3, p4⟩, hp⟩ : ∃ s, stA L j = s := ⟨_, rfl⟩
  have hle : s1 ≤ p1 := by unfold upB at hu; rw [yy HS] at hu; simp [hp] at hu; omega
  rcases yy HA with h0 | ⟨b, o, rfl, hb, hc⟩
  ·omega
  have hst := (hc j (by omega)).kept hb (yy HB)
  rw [hp] at hst
  obtain ⟨c0, _, _, _⟩ := hst
  have hj1 : (j : Int) + 1 - 1 = (j : Int) := by omega
  have hj2 : (0 : Int) < (j : Int) + 1 := by omega
  clear hu hp hc
  go_enter Tryz.func90, Tryz.ntmps90
  go_wp2_with fail
  go_quiet (fail)
  go_wp2_with fail
  go_ret
  exact ⟨by rw [yy HO]; rfl, aj (yy HB) (bL _ _)⟩
 have K1 := yz hu
 clear hu
 rcases Nat.eq_zero_or_pos i with hi0 | hi0
 ·subst hi0
  go_enter Tryz.func90, Tryz.ntmps90
  go_wp2_with fail
  go_quiet (fail)
  go_wp2_with fail
  have hx := aj (yy HB) (bL (w.alloc (.cells #[.int .i64 s1, .int .i64 s2, .int .i64 s3, .int .i64 s4] 69)) nq)
  have hn' := (yy HN).kept (by simp) (bL _ nq)
  generalize (w.alloc (.cells #[.int .i64 s1, .int .i64 s2, .int .i64 s3, .int .i64 s4] 69)).drewN nq = W1 at hx hn' ⊢
  have HB1 := yz hx
  have HN1 := yz hn'
  clear hx hn' HB HN
  obtain ⟨_, c1, c2, c3⟩ := yy HN1
  simp only [Nat.zero_add] at c1 c2 c3
  have r1 := cell_regrown c1
  have r2 := cell_regrown c2
  have r3 := cell_regrown c3
  clear c1 c2 c3
  cases hsm : aH s2 s3 s4
  ·have HO : Hid (dT L 0 = cH pl) := yz (by unfold dT; rw [if_neg (yy K0), if_neg (yy K1), if_pos (by rw [yy HS]; simp [hsm])])
   have cS : Hid (∀ W : World, Calls Tryz.prog 104 #[.agg #[.int .i64 s2, .int .i64 s3, .int .i64 s4]] W fun e w' => e = .returned (.bool false) ∧ Below W.heap.size W w') := yz (fun W => (dI s2 s3 s4 W).mono fun e w' h => ⟨by rw [h.1, hsm], h.2⟩)
   clear hsm
   refine wp_region_quiet_below (by kernel_rfl) (by kernel_rfl) ?_
   repeat (quiet_step (first | (with_reducible exact Calls.regrown_of (yy cS _))))
   refine wpQuiet_nil ?_
   intro _ hw'
   obtain ⟨⟨dq, osq⟩, hw''⟩ := hw'
   subst hw''
   have hx := aj (yy HB1) (below_regrown W1 dq osq)
   go_wp2_with fail
   go_ret
   exact ⟨by rw [yy HO]; rfl, hx⟩
  ·have cS : Hid (∀ W : World, Calls Tryz.prog 104 #[.agg #[.int .i64 s2, .int .i64 s3, .int .i64 s4]] W fun e w' => e = .returned (.bool true) ∧ Below W.heap.size W w') := yz (fun W => (dI s2 s3 s4 W).mono fun e w' h => ⟨by rw [h.1, hsm], h.2⟩)
   have cP := yz (fun W => mL s2 s3 s4 W)
   have hq := fun W => gJ s2 s3 s4 (prI (aq s2 s3 s4) (gI s2 s3 s4) s2) (prI (aq s2 s3 s4) (gI s2 s3 s4) s3) (prI (aq s2 s3 s4) (gI s2 s3 s4) s4) W
   have hq2 : eqB s2 s3 s4 (prI (aq s2 s3 s4) (gI s2 s3 s4) s2) (prI (aq s2 s3 s4) (gI s2 s3 s4) s3) (prI (aq s2 s3 s4) (gI s2 s3 s4) s4) = dx s2 s3 s4 := rfl
   rw [hq2] at hq
   clear hq2
   generalize prI (aq s2 s3 s4) (gI s2 s3 s4) s2 = t2 at cP hq
   generalize prI (aq s2 s3 s4) (gI s2 s3 s4) s3 = t3 at cP hq
   generalize prI (aq s2 s3 s4) (gI s2 s3 s4) s4 = t4 at cP hq
   cases hpr : dx s2 s3 s4
   ·have HO : Hid (dT L 0 = cH pl) := yz (by unfold dT; rw [if_neg (yy K0), if_neg (yy K1), if_pos (by rw [yy HS]; simp [hpr])])
    rw [hpr] at hq
    refine wp_region_quiet_below (by kernel_rfl) (by kernel_rfl) ?_
    repeat (quiet_step (first | (with_reducible exact Calls.regrown_of (yy cS _)) | (with_reducible exact Calls.regrown_of (yy cP _))))
    refine wpQuiet_nil ?_
    intro _ hw'
    obtain ⟨⟨dq, osq⟩, hw''⟩ := hw'
    subst hw''
    have hx := below_regrown W1 dq osq
    replace hx := aj (yy HB1) hx
    go_wp2_with fail
    go_ret
    exact ⟨by rw [yy HO]; rfl, hx⟩
   ·have K2 : Hid (¬ (aH (stA L 0).2.1 (stA L 0).2.2.1 (stA L 0).2.2.2 && dx (stA L 0).2.1 (stA L 0).2.2.1 (stA L 0).2.2.2) = false) := yz (by rw [yy HS]; simp [hsm, hpr])
    clear hsm
    rw [hpr] at hq
    refine wp_region_quiet_below (by kernel_rfl) (by kernel_rfl) ?_
    repeat (quiet_step (first | (with_reducible exact Calls.regrown_of (yy cS _)) | (with_reducible exact Calls.regrown_of (yy cP _))))
    refine wpQuiet_nil ?_
    intro _ hw'
    obtain ⟨⟨dq, osq⟩, hw''⟩ := hw'
    subst hw''
    have hx := below_regrown W1 dq osq
    have hn2 := (yy HN1).kept (World.block_lt_of_cell? _ _ (yy HN1).1) hx
    have hb2 := aj (yy HB1) hx
    generalize grow (redrawn W1 dq) osq = W2 at hx hn2 hb2 ⊢
    have HB2 := yz hb2
    clear hx hb2 r1 r2 r3 hq cS cP HN1 HB1
    obtain ⟨_, c1, c2, c3⟩ := hn2
    simp only [Nat.zero_add] at c1 c2 c3
    go_wp2_with fail
    refine (jK L 0 s2 s3 s4 _ _ _ hi ((yy HA).kept (yy HB2))).mono ?_
    rintro e w3 ⟨rfl, hx⟩
    replace hx := aj (yy HB2) hx
    clear HB2 c1 c2 c3
    have ht : dm L (0, s2, s3, s4) 0 = dm L (stA L 0) 0 := by rw [yy HS]; rfl
    rw [ht]
    clear ht
    cases htk : dm L (stA L 0) 0
    ·have HO : Hid (dT L 0 = .nilIface) := yz (by unfold dT; rw [if_neg (yy K0), if_neg (yy K1), if_neg (yy K2), if_neg (by rw [htk]; simp)])
     go_wp2_with fail
     go_ret
     exact ⟨by rw [yy HO]; rfl, hx⟩
    ·have HO : Hid (dT L 0 = cH qg) := yz (by unfold dT; rw [if_neg (yy K0), if_neg (yy K1), if_neg (yy K2), if_pos htk])
     go_wp2_with fail
     go_ret
     exact ⟨by rw [yy HO]; rfl, hx⟩
 ·obtain ⟨j, rfl⟩ : ∃ j, i = j + 1 := ⟨i - 1, by omega⟩
  obtain ⟨⟨p1, p2, p3, p4⟩, hp⟩ : ∃ s, stA L j = s := ⟨_, rfl⟩
  have hle : p1 < s1 := by have hu := yy K1; unfold upB at hu; rw [yy HS] at hu; simp [hp] at hu; omega
  rcases yy HA with h0 | ⟨b, o, rfl, hb, hc⟩
  ·omega
  have hst := (hc j (by omega)).kept hb (yy HB)
  rw [hp] at hst
  obtain ⟨c0, _, _, _⟩ := hst
  have hj1 : (j : Int) + 1 - 1 = (j : Int) := by omega
  have hj2 : (0 : Int) < (j : Int) + 1 := by omega
  clear hp hc
  go_enter Tryz.func90, Tryz.ntmps90
  go_wp2_with fail
  go_quiet (fail)
  go_wp2_with fail
  clear c0
  have hx := aj (yy HB) (bL (w.alloc (.cells #[.int .i64 s1, .int .i64 s2, .int .i64 s3, .int .i64 s4] 69)) nq)
  have hn' := (yy HN).kept (by simp) (bL _ nq)
  generalize (w.alloc (.cells #[.int .i64 s1, .int .i64 s2, .int .i64 s3, .int .i64 s4] 69)).drewN nq = W1 at hx hn' ⊢
  have HB1 := yz hx
  have HN1 := yz hn'
  clear hx hn' HB HN
  obtain ⟨_, c1, c2, c3⟩ := yy HN1
  simp only [Nat.zero_add] at c1 c2 c3
  have r1 := cell_regrown c1
  have r2 := cell_regrown c2
  have r3 := cell_regrown c3
  clear c1 c2 c3
  cases hsm : aH s2 s3 s4
  ·have HO : Hid (dT L (j + 1) = cH pl) := yz (by unfold dT; rw [if_neg (yy K0), if_neg (yy K1), if_pos (by rw [yy HS]; simp [hsm])])
   have cS : Hid (∀ W : World, Calls Tryz.prog 104 #[.agg #[.int .i64 s2, .int .i64 s3, .int .i64 s4]] W fun e w' => e = .returned (.bool false) ∧ Below W.heap.size W w') := yz (fun W => (dI s2 s3 s4 W).mono fun e w' h => ⟨by rw [h.1, hsm], h.2⟩)
   clear hsm
   refine wp_region_quiet_below (by kernel_rfl) (by kernel_rfl) ?_
   repeat (quiet_step (first | (with_reducible exact Calls.regrown_of (yy cS _))))
   refine wpQuiet_nil ?_
   intro _ hw'
   obtain ⟨⟨dq, osq⟩, hw''⟩ := hw'
   subst hw''
   have hx := aj (yy HB1) (below_regrown W1 dq osq)
   go_wp2_with fail
   go_ret
   exact ⟨by rw [yy HO]; rfl, hx⟩
  ·have cS : Hid (∀ W : World, Calls Tryz.prog 104 #[.agg #[.int .i64 s2, .int .i64 s3, .int .i64 s4]] W fun e w' => e = .returned (.bool true) ∧ Below W.heap.size W w') := yz (fun W => (dI s2 s3 s4 W).mono fun e w' h => ⟨by rw [h.1, hsm], h.2⟩)
   have cP := yz (fun W => mL s2 s3 s4 W)
   have hq := fun W => gJ s2 s3 s4 (prI (aq s2 s3 s4) (gI s2 s3 s4) s2) (prI (aq s2 s3 s4) (gI s2 s3 s4) s3) (prI (aq s2 s3 s4) (gI s2 s3 s4) s4) W
   have hq2 : eqB s2 s3 s4 (prI (aq s2 s3 s4) (gI s2 s3 s4) s2) (prI (aq s2 s3 s4) (gI s2 s3 s4) s3) (prI (aq s2 s3 s4) (gI s2 s3 s4) s4) = dx s2 s3 s4 := rfl
   rw [hq2] at hq
   clear hq2
   generalize prI (aq s2 s3 s4) (gI s2 s3 s4) s2 = t2 at cP hq
   generalize prI (aq s2 s3 s4) (gI s2 s3 s4) s3 = t3 at cP hq
   generalize prI (aq s2 s3 s4) (gI s2 s3 s4) s4 = t4 at cP hq
   cases hpr : dx s2 s3 s4
   ·have HO : Hid (dT L (j + 1) = cH pl) := yz (by unfold dT; rw [if_neg (yy K0), if_neg (yy K1), if_pos (by rw [yy HS]; simp [hpr])])
    rw [hpr] at hq
    refine wp_region_quiet_below (by kernel_rfl) (by kernel_rfl) ?_
    repeat (quiet_step (first | (with_reducible exact Calls.regrown_of (yy cS _)) | (with_reducible exact Calls.regrown_of (yy cP _))))
    refine wpQuiet_nil ?_
    intro _ hw'
    obtain ⟨⟨dq, osq⟩, hw''⟩ := hw'
    subst hw''
    have hx := below_regrown W1 dq osq
    replace hx := aj (yy HB1) hx
    go_wp2_with fail
    go_ret
    exact ⟨by rw [yy HO]; rfl, hx⟩
   ·have K2 : Hid (¬ (aH (stA L (j + 1)).2.1 (stA L (j + 1)).2.2.1 (stA L (j + 1)).2.2.2 && dx (stA L (j + 1)).2.1 (stA L (j + 1)).2.2.1 (stA L (j + 1)).2.2.2) = false) := yz (by rw [yy HS]; simp [hsm, hpr])
    clear hsm
    rw [hpr] at hq
    refine wp_region_quiet_below (by kernel_rfl) (by kernel_rfl) ?_
    repeat (quiet_step (first | (with_reducible exact Calls.regrown_of (yy cS _)) | (with_reducible exact Calls.regrown_of (yy cP _))))
    refine wpQuiet_nil ?_
    intro _ hw'
    obtain ⟨⟨dq, osq⟩, hw''⟩ := hw'
    subst hw''
    have hx := below_regrown W1 dq osq
    have hn2 := (yy HN1).kept (World.block_lt_of_cell? _ _ (yy HN1).1) hx
    have hb2 := aj (yy HB1) hx
    generalize grow (redrawn W1 dq) osq = W2 at hx hn2 hb2 ⊢
    have HB2 := yz hb2
    clear hx hb2 r1 r2 r3 hq cS cP HN1 HB1
    obtain ⟨_, c1, c2, c3⟩ := hn2
    simp only [Nat.zero_add] at c1 c2 c3
    go_wp2_with fail
    refine (jK L (j + 1) s2 s3 s4 _ _ _ hi ((yy HA).kept (yy HB2))).mono ?_
    rintro e w3 ⟨rfl, hx⟩
    replace hx := aj (yy HB2) hx
    clear HB2 c1 c2 c3
    have ht : dm L (0, s2, s3, s4) (j + 1) = dm L (stA L (j + 1)) (j + 1) := by rw [yy HS]; rfl
    rw [ht]
    clear ht
    cases htk : dm L (stA L (j + 1)) (j + 1)
    ·have HO : Hid (dT L (j + 1) = .nilIface) := yz (by unfold dT; rw [if_neg (yy K0), if_neg (yy K1), if_neg (yy K2), if_neg (by rw [htk]; simp)])
     go_wp2_with fail
     go_ret
     exact ⟨by rw [yy HO]; rfl, hx⟩
    ·have HO : Hid (dT L (j + 1) = cH qg) := yz (by unfold dT; rw [if_neg (yy K0), if_neg (yy K1), if_neg (yy K2), if_pos htk])
     go_wp2_with fail
     go_ret
     exact ⟨by rw [yy HO]; rfl, hx⟩
def eX (L : List St) : Value := if 12 < L.length then cH qJ else match (List.range L.length).find? (fun i => !dn L i) with | none => .nilIface | some i => dT L i
theorem jC {L : List St} (hl : L.length ≤ 12) (h : oR L L.length) : eX L = .nilIface := by
 unfold eX
 rw [if_neg (by omega)]
 have : (List.range L.length).find? (fun i => !dn L i) = none := by
  rw [List.find?_eq_none]
  intro j hj
  rw [h j (List.mem_range.1 hj)]
  simp
 rw [this]
theorem rH {L : List St} {k : Nat} (hl : L.length ≤ 12) (hk : k < L.length) (h : oR L k) (h1 : dn L k = false) : eX L = dT L k := by
 unfold eX
 rw [if_neg (by omega)]
 have : (List.range L.length).find? (fun i => !dn L i) = some k := by
  rw [List.find?_range_eq_some]
  refine ⟨by rw [h1]; rfl, List.mem_range.2 hk, fun j hj => ?_⟩
  rw [h j hj]
  rfl
 rw [this]
theorem rI {L : List St} (h : aL L = false) : ∃ why, eX L = cH why := by
 unfold eX
 split
 ·exact ⟨_, rfl⟩
 ·rename_i hl
  cases hf : (List.range L.length).find? (fun i => !dn L i) with
  | none =>
   exfalso
   rw [List.find?_eq_none] at hf
   have : aL L = true := nQ (by omega) (fun j hj => by have := hf j (List.mem_range.2 hj); simpa using this)
   rw [h] at this
   cases this
  | some i =>
   rw [List.find?_range_eq_some] at hf
   exact qK (by simpa using hf.1)
theorem qf {L : List St} (h : aL L = true) : eX L = .nilIface := jC (bm h).1 (bm h).2
theorem jd (L : List St) (a : Option Addr) (c : Nat) (w : World) (hn : L.length ≤ 1048576) (hcap : L.length ≤ c) (hc9 : c ≤ 9223372036854775807) (hS : aJ w a L L.length) :
  Calls Tryz.prog 62 #[.slice a L.length c] w fun e w' => e = .returned (eX L) ∧ Below w.heap.size w w' := by
 obtain ⟨n, hnl⟩ : ∃ n, L.length = n := ⟨_, rfl⟩
 rw [hnl] at hn hcap hS ⊢
 have HL := yz hnl
 clear hnl
 by_cases h12 : 12 < n
 ·have h12' : (12 : Int) < (n : Int) := by omega
  have HO : Hid (eX L = cH qJ) := yz (by unfold eX; rw [if_pos (by rw [yy HL]; exact h12)])
  clear hS
  go_enter Tryz.func62, Tryz.ntmps62
  go_wp2
  go_ret
  exact ⟨by rw [yy HO]; rfl, Below.refl _ _⟩
 have h12' : ¬ (12 : Int) < (n : Int) := by omega
 rcases hS with rfl | ⟨b, o, rfl, hb, hc⟩
 ·have HO : Hid (eX L = .nilIface) := yz (jC (by rw [yy HL]; omega) (by rw [yy HL]; intro j hj; omega))
  go_enter Tryz.func62, Tryz.ntmps62
  go_wp2_with fail
  refine wp_loop_rounds 1 ?_
  rw [rounds_succ]
  go_wp2_with fail
  go_ret
  exact ⟨by rw [yy HO]; rfl, Below.refl _ _⟩
 have HC := yz hc
 have HS : Hid (aJ w (some ⟨b, o, none⟩) L n) := yz (.inr ⟨b, o, rfl, hb, hc⟩)
 clear hc
 go_enter Tryz.func62, Tryz.ntmps62
 go_wp2_with fail
 go_loopw [13] (fun i wr => ∃ k : Nat, k ≤ n ∧ i = .int .i64 k ∧ Hid (oR L k) ∧ Hid (Below w.heap.size w wr)) (fun i _ => n - (intOf i).toNat)
 case atStart => exact ⟨0, by omega, rfl, yz (fun j hj => absurd hj (Nat.not_lt_zero _)), yz (Below.refl _ _)⟩
 case round =>
  obtain ⟨k, hk, rfl, HF, HB⟩ := hrel
  by_cases hkn : k < n
  ·obtain ⟨⟨s1, s2, s3, s4⟩, hs⟩ : ∃ s, stA L k = s := ⟨_, rfl⟩
   have hst := ((yy HC) k hkn).kept hb (yy HB)
   rw [hs] at hst
   obtain ⟨c0, c1, c2, c3⟩ := hst
   have HT := yz hs
   clear hs
   have B1 := yz ((yy HB).alloc (yy HB).size (.cells #[.int .i64 s1, .int .i64 s2, .int .i64 s3, .int .i64 s4] 69))
   have N1 := yz (ea wr (s1, s2, s3, s4) 69)
   go_wp2_with fail
   clear c0 c1 c2 c3
   have hb1 := yy B1
   have hn1 := yy N1
   generalize hwe : wr.alloc (.cells #[.int .i64 s1, .int .i64 s2, .int .i64 s3, .int .i64 s4] 69) = W1 at hb1 hn1 ⊢
   have HB1 := yz hb1
   clear hwe hb1 B1 N1
   obtain ⟨c0, c1, c2, c3⟩ := hn1
   simp only [Nat.zero_add] at c0 c1 c2 c3
   have r0 := cell_regrown c0
   have r1 := cell_regrown c1
   have r2 := cell_regrown c2
   have r3 := cell_regrown c3
   clear c0 c1 c2 c3
   have cW := yz (fun (W : World) (hW : aJ W (some ⟨b, o, none⟩) L k) => md L k s1 s2 s3 s4 (some ⟨b, o, none⟩) k W (by omega) (yy HT) hW)
   have HSk := yz (((yy HS).less (Nat.le_of_lt hkn)).kept (yy HB1))
   have hkc : (k : Int) ≤ (c : Int) := by omega
   refine wp_region_quiet_below (by kernel_rfl) (by kernel_rfl) ?_
   repeat (quiet_step (first | (with_reducible exact Calls.regrown_of (yy cW _ ((yy HSk).kept (below_regrown _ _ _))))))
   refine wpQuiet_nil ?_
   intro _ hw'
   obtain ⟨⟨dq, osq⟩, hw''⟩ := hw'
   subst hw''
   have hx := aj (yy HB1) (below_regrown W1 dq osq)
   generalize grow (redrawn W1 dq) osq = W2 at hx ⊢
   have HB2 := yz hx
   clear hx HB1 HB cW HSk r0 r1 r2 r3
   cases hok : dn L k
   ·obtain ⟨why, hwhy⟩ := qK hok
    have HO := yz (rH (by rw [yy HL]; omega) (by rw [yy HL]; exact hkn) (yy HF) hok)
    rw [hwhy] at HO ⊢
    unfold cH at HO ⊢
    clear hok hwhy
    go_wp2_with fail
    go_ret
    exact ⟨by rw [yy HO]; rfl, yy HB2⟩
   ·rw [tH hok]
    have HF2 := yz (nH (yy HF) hok)
    clear hok
    go_wp2_with fail
    go_roundw
    case rel => exact ⟨k + 1, by omega, by go_num, HF2, HB2⟩
    case measure => simp [intOf]; omega
  ·have hkn' : k = n := by omega
   subst hkn'
   have HO := yz (jC (L := L) (by rw [yy HL]; omega) (by rw [yy HL]; exact yy HF))
   go_wp2_with fail
   go_ret
   exact ⟨by rw [yy HO]; rfl, yy HB⟩
theorem eD (L : List St) (a : Option Addr) (c : Nat) (p : Addr) (w : World) (hn : L.length ≤ 1048576) (hcap : L.length ≤ c) (hc9 : c ≤ 9223372036854775807) (hS : aJ w a L L.length) (hE : bg p w) :
  Calls Tryz.prog 26 #[.slice a L.length c] w fun e w' => e = .returned (.bool (aL L)) ∧ Below w.heap.size w w' := by
 have r0 := cell_regrown (show w.cell? ⟨0, 0, none⟩ = some (.iface 149 (.pointer (some p))) from hE)
 have HS := yz hS
 have HE := yz hE
 clear hS hE
 cases hk : aL L
 ·obtain ⟨why, hwhy⟩ := rI hk
  have cW : Hid (∀ W : World, aJ W a L L.length → Calls Tryz.prog 62 #[.slice a L.length c] W fun e w' => e = .returned (.iface 122 (.agg #[.string why])) ∧ Below W.heap.size W w') := yz (fun W hW => (jd L a c W hn hcap hc9 hW).mono fun e w' h => ⟨by rw [h.1, hwhy]; rfl, h.2⟩)
  have cI := yz (fun (W : World) (hW : bg p W) => sn why p W hW)
  clear hwhy hk
  go_enter Tryz.func26, Tryz.ntmps26
  go_wp2_with fail
  refine wp_region_quiet_below (by kernel_rfl) (by kernel_rfl) ?_
  repeat (quiet_step (first | (with_reducible exact Calls.regrown_of (yy cW _ ((yy HS).kept (below_regrown _ _ _)))) | (with_reducible exact Calls.regrown_of (yy cI _ ((yy HE).kept (below_regrown _ _ _))))))
  refine wpQuiet_nil ?_
  intro _ hw'
  obtain ⟨⟨dq, osq⟩, hw''⟩ := hw'
  subst hw''
  have hx := below_regrown w dq osq
  go_wp2_with fail
  go_ret
  exact ⟨rfl, hx⟩
 ·have cW : Hid (∀ W : World, aJ W a L L.length → Calls Tryz.prog 62 #[.slice a L.length c] W fun e w' => e = .returned .nilIface ∧ Below W.heap.size W w') := yz (fun W hW => (jd L a c W hn hcap hc9 hW).mono fun e w' h => ⟨by rw [h.1, qf hk], h.2⟩)
  have cI : Hid (∀ W : World, Calls Tryz.prog 61 #[.nilIface, .iface 149 (.pointer (some p))] W fun e w' => e = .returned (.bool false) ∧ Below W.heap.size W w') := yz (fun W => (uf p W).mono fun e w' h => ⟨h.1, by rw [h.2]; exact Below.refl _ _⟩)
  clear hk
  go_enter Tryz.func26, Tryz.ntmps26
  go_wp2_with fail
  refine wp_region_quiet_below (by kernel_rfl) (by kernel_rfl) ?_
  repeat (quiet_step (first | (with_reducible exact Calls.regrown_of (yy cW _ ((yy HS).kept (below_regrown _ _ _)))) | (with_reducible exact Calls.regrown_of (yy cI _))))
  refine wpQuiet_nil ?_
  intro _ hw'
  obtain ⟨⟨dq, osq⟩, hw''⟩ := hw'
  subst hw''
  have hx := below_regrown w dq osq
  go_wp2_with fail
  go_ret
  exact ⟨rfl, hx⟩
theorem om (a1 a2 a3 b1 b2 b3 : Int) : eqB a1 a2 a3 b1 b2 b3 = eqI b1 b2 b3 a1 a2 a3 := by
 unfold eqB eqI
 congr 1
 apply propext
 constructor <;> rintro ⟨h1, h2, h3⟩ <;> exact ⟨h1.symm, h2.symm, h3.symm⟩
theorem oO {L : List St} {i : Nat} {s1 s2 s3 s4 : Int} (hs : stA L i = (s1, s2, s3, s4)) (h : idB s1 = false) : dn L i = false := by unfold dn; rw [hs]; simp [h]
theorem sD {L : List St} {i : Nat} (h : upB L i = false) : dn L i = false := by unfold dn; simp [h]
theorem iO {L : List St} {i : Nat} {s1 s2 s3 s4 : Int} (hs : stA L i = (s1, s2, s3, s4)) (h : aH s2 s3 s4 = false) : dn L i = false := by unfold dn; rw [hs]; simp [h]
theorem oP {L : List St} {i : Nat} {s1 s2 s3 s4 : Int} (hs : stA L i = (s1, s2, s3, s4)) (h : dx s2 s3 s4 = false) : dn L i = false := by unfold dn; rw [hs]; simp [h]
theorem sE {L : List St} {i : Nat} (h : dm L (stA L i) i = true) : dn L i = false := by unfold dn; simp [h]
theorem oQ {L : List St} {i : Nat} {s1 s2 s3 s4 : Int} (hs : stA L i = (s1, s2, s3, s4)) (h1 : idB s1 = true) (h2 : upB L i = true) (h3 : aH s2 s3 s4 = true) (h4 : dx s2 s3 s4 = true) (h5 : dm L (stA L i) i = false) : dn L i = true := by
 unfold dn
 rw [h5, h2, hs]
 simp [h1, h3, h4]
theorem dl (L : List St) (a : Option Addr) (c : Nat) (w : World) (hn : L.length ≤ 1048576) (hS : aJ w a L L.length) :
  Calls Tryz.prog 22 #[.slice a L.length c] w fun e w' => e = .returned (.bool (aL L)) ∧ Below w.heap.size w w' := by
 obtain ⟨n, hnl⟩ : ∃ n, L.length = n := ⟨_, rfl⟩
 rw [hnl] at hn hS ⊢
 have HL := yz hnl
 clear hnl
 by_cases h12 : 12 < n
 ·have h12' : (12 : Int) < (n : Int) := by omega
  have HO : Hid (aL L = false) := yz (lA (by rw [yy HL]; exact h12))
  clear hS
  go_enter Tryz.func22, Tryz.ntmps22
  go_wp2
  go_ret
  exact ⟨by rw [yy HO]; rfl, Below.refl _ _⟩
 have h12' : ¬ (12 : Int) < (n : Int) := by omega
 rcases hS with rfl | ⟨b, o, rfl, hb, hc⟩
 ·have HO : Hid (aL L = true) := yz (nQ (by rw [yy HL]; omega) (by rw [yy HL]; intro j hj; omega))
  go_enter Tryz.func22, Tryz.ntmps22
  go_wp2_with fail
  refine wp_loop_rounds 1 ?_
  rw [rounds_succ]
  go_wp2_with fail
  go_ret
  exact ⟨by rw [yy HO]; rfl, Below.refl _ _⟩
 have HC := yz hc
 clear hc
 go_enter Tryz.func22, Tryz.ntmps22
 go_wp2_with fail
 go_loopw [3] (fun i wr => ∃ k : Nat, k ≤ n ∧ i = .int .i64 k ∧ Hid (oR L k) ∧ Hid (Below w.heap.size w wr)) (fun i _ => n - (intOf i).toNat)
 case atStart => exact ⟨0, by omega, rfl, yz (fun j hj => absurd hj (Nat.not_lt_zero _)), yz (Below.refl _ _)⟩
 case round =>
  obtain ⟨k, hk, rfl, HF, HB⟩ := hrel
  by_cases hkn : k < n
  ·obtain ⟨⟨s1, s2, s3, s4⟩, hs⟩ : ∃ s, stA L k = s := ⟨_, rfl⟩
   have hst := ((yy HC) k hkn).kept hb (yy HB)
   rw [hs] at hst
   obtain ⟨c0, c1, c2, c3⟩ := hst
   have HT := yz hs
   clear hs
   have hkn2 : (k : Int) < (n : Int) := by omega
   have B1 := yz ((yy HB).alloc (yy HB).size (.cells #[.int .i64 s2, .int .i64 s3, .int .i64 s4] 67))
   have N1 := yz (aA wr s2 s3 s4 67)
   rcases Nat.eq_zero_or_pos k with hk0 | hk0
   ·subst hk0
    go_wp2_with fail
    clear c0 c1 c2 c3
    have hb1 := yy B1
    have hn1 := yy N1
    generalize hwe : wr.alloc (.cells #[.int .i64 s2, .int .i64 s3, .int .i64 s4] 67) = W1 at hb1 hn1 ⊢
    generalize hwb : wr.heap.size = vb at hn1 ⊢
    have HB1 := yz hb1
    have HN1 := yz hn1
    clear hwe hwb hb1 hn1 B1 N1 HB
    obtain ⟨v0, v1, v2⟩ := yy HN1
    have r0 := cell_regrown v0
    have r1 := cell_regrown v1
    have r2 := cell_regrown v2
    clear v0 v1 v2
    have hst := ((yy HC) (0) hkn).kept hb (yy HB1)
    rw [yy HT] at hst
    have hst1 := hst.1
    simp only [Nat.zero_mul, Nat.add_zero] at hst1
    have q0 := cell_regrown hst1
    clear hst hst1
    have cI : Hid (∀ W : World, Calls Tryz.prog 53 #[.int .i64 s1, .int .i64 1, .int .i64 9999] W fun e w' => e = .returned (.bool (idB s1)) ∧ Below W.heap.size W w') := yz (fun W => (cB s1 1 9999 W).mono fun e w' h => ⟨h.1, by rw [h.2]; exact Below.refl _ _⟩)
    have cR := yz (fun W => bN s2 s3 s4 W)
    have cW := yz (fun W => dz 10 s2 s3 s4 W (by omega) (by omega))
    cases hid : idB s1
    ·have HO : Hid (aL L = false) := yz (fg (k := 0) (by rw [yy HL]; exact hkn) (oO (yy HT) hid))
     rw [hid] at cI
     refine wp_region_quiet_below (by kernel_rfl) (by kernel_rfl) ?_
     repeat (go_big_quiet_step (first | (with_reducible exact Calls.regrown_of (yy cI _))))
     refine wpQuiet_nil ?_
     intro _ hw'
     obtain ⟨⟨dq, osq⟩, hw''⟩ := hw'
     subst hw''
     have hx := aj (yy HB1) (below_regrown W1 dq osq)
     go_wp2_with fail
     go_ret
     exact ⟨by rw [yy HO]; rfl, hx⟩
    ·rw [hid] at cI
     have HU : Hid (upB L 0 = true) := yz rfl
     cases hr : aq s2 s3 s4
     ·have HO : Hid (aL L = false) := yz (fg (k := 0) (by rw [yy HL]; exact hkn) (iO (yy HT) (by unfold aH; rw [hr]; rfl)))
      rw [hr] at cR
      refine wp_region_quiet_below (by kernel_rfl) (by kernel_rfl) ?_
      repeat (go_big_quiet_step (first | (with_reducible exact Calls.regrown_of (yy cI _)) | (with_reducible exact Calls.regrown_of (yy cR _))))
      refine wpQuiet_nil ?_
      intro _ hw'
      obtain ⟨⟨dq, osq⟩, hw''⟩ := hw'
      subst hw''
      have hx := aj (yy HB1) (below_regrown W1 dq osq)
      go_wp2_with fail
      go_ret
      exact ⟨by rw [yy HO]; rfl, hx⟩
     ·rw [hr] at cR
      have cP := yz (fun W => dP s2 s3 s4 W hr)
      cases hwi : aF 10 s2 s3 s4
      ·have HO : Hid (aL L = false) := yz (fg (k := 0) (by rw [yy HL]; exact hkn) (iO (yy HT) (by unfold aH; rw [hwi]; simp)))
       rw [hwi] at cW
       refine wp_region_quiet_below (by kernel_rfl) (by kernel_rfl) ?_
       repeat (go_big_quiet_step (first | (with_reducible exact Calls.regrown_of (yy cI _)) | (with_reducible exact Calls.regrown_of (yy cR _)) | (with_reducible exact Calls.regrown_of (yy cW _))))
       refine wpQuiet_nil ?_
       intro _ hw'
       obtain ⟨⟨dq, osq⟩, hw''⟩ := hw'
       subst hw''
       have hx := aj (yy HB1) (below_regrown W1 dq osq)
       go_wp2_with fail
       go_ret
       exact ⟨by rw [yy HO]; rfl, hx⟩
      ·rw [hwi] at cW
       have hq := fun W => gJ (wrap64 (s2.tdiv (gI s2 s3 s4))) (wrap64 (s3.tdiv (gI s2 s3 s4))) (wrap64 (s4.tdiv (gI s2 s3 s4))) s2 s3 s4 W
       have hq2 : eqB (wrap64 (s2.tdiv (gI s2 s3 s4))) (wrap64 (s3.tdiv (gI s2 s3 s4))) (wrap64 (s4.tdiv (gI s2 s3 s4))) s2 s3 s4 = dx s2 s3 s4 := by rw [om]; unfold dx prI; rw [hr]; rfl
       rw [hq2] at hq
       clear hq2
       generalize wrap64 (s2.tdiv (gI s2 s3 s4)) = t2 at cP hq
       generalize wrap64 (s3.tdiv (gI s2 s3 s4)) = t3 at cP hq
       generalize wrap64 (s4.tdiv (gI s2 s3 s4)) = t4 at cP hq
       cases hpr : dx s2 s3 s4
       ·have HO : Hid (aL L = false) := yz (fg (k := 0) (by rw [yy HL]; exact hkn) (oP (yy HT) hpr))
        rw [hpr] at hq
        refine wp_region_quiet_below (by kernel_rfl) (by kernel_rfl) ?_
        repeat (go_big_quiet_step (first | (with_reducible exact Calls.regrown_of (yy cI _)) | (with_reducible exact Calls.regrown_of (yy cR _)) | (with_reducible exact Calls.regrown_of (yy cW _)) | (with_reducible exact Calls.regrown_of (yy cP _))))
        refine wpQuiet_nil ?_
        intro _ hw'
        obtain ⟨⟨dq, osq⟩, hw''⟩ := hw'
        subst hw''
        have hx := aj (yy HB1) (below_regrown W1 dq osq)
        go_wp2_with fail
        go_ret
        exact ⟨by rw [yy HO]; rfl, hx⟩
       ·rw [hpr] at hq
        have HM : Hid (aH s2 s3 s4 = true) := yz (by unfold aH; rw [hr, hwi]; rfl)
        have HI := yz hid
        have HPR := yz hpr
        refine wp_region_quiet_below (by kernel_rfl) (by kernel_rfl) ?_
        repeat (go_big_quiet_step (first | (with_reducible exact Calls.regrown_of (yy cI _)) | (with_reducible exact Calls.regrown_of (yy cR _)) | (with_reducible exact Calls.regrown_of (yy cW _)) | (with_reducible exact Calls.regrown_of (yy cP _))))
        refine wpQuiet_nil ?_
        intro _ hw'
        obtain ⟨⟨dq, osq⟩, hw''⟩ := hw'
        subst hw''
        have hx := below_regrown W1 dq osq
        have hb2 := aj (yy HB1) hx
        have hn2 := (yy HN1).kept (vlt (yy HN1)) hx
        generalize grow (redrawn W1 dq) osq = W2 at hb2 hn2 hx ⊢
        have HB2 := yz hb2
        have HN2 := yz hn2
        clear hx hb2 hn2 r0 r1 r2 q0 hq cI cR cW cP hid hpr hwi hr HB1 HN1
        go_wp2_with fail
        go_loopw [5] (fun i wr => ∃ m : Nat, m ≤ 0 ∧ i = .int .i64 m ∧ Hid (jm L (stA L (0)) m) ∧ Hid (Below w.heap.size w wr) ∧ Hid (aB wr vb s2 s3 s4)) (fun i _ => (0) - (intOf i).toNat)
        case atStart => exact ⟨0, by omega, rfl, yz (fun j hj => absurd hj (Nat.not_lt_zero _)), HB2, HN2⟩
        case round =>
         obtain ⟨m, hm, rfl, HE, HB3, HN3⟩ := hrel
         by_cases hmk : m < 0
         ·omega
         ·have hmk' : m = 0 := by omega
          subst hmk'
          have HF2 := yz (nH (yy HF) (oQ (yy HT) (yy HI) (yy HU) (yy HM) (yy HPR) (lK (yy HE))))
          go_wp2_with fail
          go_roundw
          case rel => exact ⟨0 + 1, by omega, by go_num, HF2, HB3⟩
          case measure => simp [intOf]; omega
   ·obtain ⟨j, hkj⟩ : ∃ j, k = j + 1 := ⟨k - 1, by omega⟩
    have HK : Hid (k - 1 = j) := yz (by omega)
    have HKJ := yz hkj
    have hjk : j < k := by omega
    clear hkj
    obtain ⟨⟨p1, p2, p3, p4⟩, hp⟩ : ∃ s, stA L j = s := ⟨_, rfl⟩
    have HP := yz hp
    clear hp
    go_wp2_with fail
    clear c0 c1 c2 c3
    have hb1 := yy B1
    have hn1 := yy N1
    generalize hwe : wr.alloc (.cells #[.int .i64 s2, .int .i64 s3, .int .i64 s4] 67) = W1 at hb1 hn1 ⊢
    generalize hwb : wr.heap.size = vb at hn1 ⊢
    have HB1 := yz hb1
    have HN1 := yz hn1
    clear hwe hwb hb1 hn1 B1 N1 HB
    obtain ⟨v0, v1, v2⟩ := yy HN1
    have r0 := cell_regrown v0
    have r1 := cell_regrown v1
    have r2 := cell_regrown v2
    clear v0 v1 v2
    have hst := ((yy HC) (k) hkn).kept hb (yy HB1)
    rw [yy HT] at hst
    have q0 := cell_regrown hst.1
    clear hst
    have hst := ((yy HC) j (by omega)).kept hb (yy HB1)
    rw [yy HP] at hst
    have q1 := cell_regrown hst.1
    clear hst
    have hj1 : (k : Int) - 1 = (j : Int) := by have := yy HKJ; omega
    have hj2 : (0 : Int) < (k : Int) := by omega
    have hj3 : (j : Int) < (n : Int) := by omega
    have cI : Hid (∀ W : World, Calls Tryz.prog 53 #[.int .i64 s1, .int .i64 1, .int .i64 9999] W fun e w' => e = .returned (.bool (idB s1)) ∧ Below W.heap.size W w') := yz (fun W => (cB s1 1 9999 W).mono fun e w' h => ⟨h.1, by rw [h.2]; exact Below.refl _ _⟩)
    have cR := yz (fun W => bN s2 s3 s4 W)
    have cW := yz (fun W => dz 10 s2 s3 s4 W (by omega) (by omega))
    cases hid : idB s1
    ·have HO : Hid (aL L = false) := yz (fg (k := k) (by rw [yy HL]; exact hkn) (oO (yy HT) hid))
     rw [hid] at cI
     refine wp_region_quiet_below (by kernel_rfl) (by kernel_rfl) ?_
     repeat (go_big_quiet_step (first | (with_reducible exact Calls.regrown_of (yy cI _))))
     refine wpQuiet_nil ?_
     intro _ hw'
     obtain ⟨⟨dq, osq⟩, hw''⟩ := hw'
     subst hw''
     have hx := aj (yy HB1) (below_regrown W1 dq osq)
     go_wp2_with fail
     go_ret
     exact ⟨by rw [yy HO]; rfl, hx⟩
    ·rw [hid] at cI
     by_cases hup : s1 ≤ p1
     ·have HO : Hid (aL L = false) := yz (fg (k := k) (by rw [yy HL]; exact hkn) (sD (by unfold upB; rw [yy HK, yy HT]; simp [yy HP]; omega)))
      refine wp_region_quiet_below (by kernel_rfl) (by kernel_rfl) ?_
      repeat (go_big_quiet_step (first | (with_reducible exact Calls.regrown_of (yy cI _))))
      refine wpQuiet_nil ?_
      intro _ hw'
      obtain ⟨⟨dq, osq⟩, hw''⟩ := hw'
      subst hw''
      have hx := aj (yy HB1) (below_regrown W1 dq osq)
      go_wp2_with fail
      go_ret
      exact ⟨by rw [yy HO]; rfl, hx⟩
     have HU : Hid (upB L k = true) := yz (by unfold upB; rw [yy HK, yy HT]; simp [yy HP]; omega)
     have hup2 : decide (s1 ≤ p1) = false := by simp; omega
     clear hup
     cases hr : aq s2 s3 s4
     ·have HO : Hid (aL L = false) := yz (fg (k := k) (by rw [yy HL]; exact hkn) (iO (yy HT) (by unfold aH; rw [hr]; rfl)))
      rw [hr] at cR
      refine wp_region_quiet_below (by kernel_rfl) (by kernel_rfl) ?_
      repeat (go_big_quiet_step (first | (with_reducible exact Calls.regrown_of (yy cI _)) | (with_reducible exact Calls.regrown_of (yy cR _))))
      refine wpQuiet_nil ?_
      intro _ hw'
      obtain ⟨⟨dq, osq⟩, hw''⟩ := hw'
      subst hw''
      have hx := aj (yy HB1) (below_regrown W1 dq osq)
      go_wp2_with fail
      go_ret
      exact ⟨by rw [yy HO]; rfl, hx⟩
     ·rw [hr] at cR
      have cP := yz (fun W => dP s2 s3 s4 W hr)
      cases hwi : aF 10 s2 s3 s4
      ·have HO : Hid (aL L = false) := yz (fg (k := k) (by rw [yy HL]; exact hkn) (iO (yy HT) (by unfold aH; rw [hwi]; simp)))
       rw [hwi] at cW
       refine wp_region_quiet_below (by kernel_rfl) (by kernel_rfl) ?_
       repeat (go_big_quiet_step (first | (with_reducible exact Calls.regrown_of (yy cI _)) | (with_reducible exact Calls.regrown_of (yy cR _)) | (with_reducible exact Calls.regrown_of (yy cW _))))
       refine wpQuiet_nil ?_
       intro _ hw'
       obtain ⟨⟨dq, osq⟩, hw''⟩ := hw'
       subst hw''
       have hx := aj (yy HB1) (below_regrown W1 dq osq)
       go_wp2_with fail
       go_ret
       exact ⟨by rw [yy HO]; rfl, hx⟩
      ·rw [hwi] at cW
       have hq := fun W => gJ (wrap64 (s2.tdiv (gI s2 s3 s4))) (wrap64 (s3.tdiv (gI s2 s3 s4))) (wrap64 (s4.tdiv (gI s2 s3 s4))) s2 s3 s4 W
       have hq2 : eqB (wrap64 (s2.tdiv (gI s2 s3 s4))) (wrap64 (s3.tdiv (gI s2 s3 s4))) (wrap64 (s4.tdiv (gI s2 s3 s4))) s2 s3 s4 = dx s2 s3 s4 := by rw [om]; unfold dx prI; rw [hr]; rfl
       rw [hq2] at hq
       clear hq2
       generalize wrap64 (s2.tdiv (gI s2 s3 s4)) = t2 at cP hq
       generalize wrap64 (s3.tdiv (gI s2 s3 s4)) = t3 at cP hq
       generalize wrap64 (s4.tdiv (gI s2 s3 s4)) = t4 at cP hq
       cases hpr : dx s2 s3 s4
       ·have HO : Hid (aL L = false) := yz (fg (k := k) (by rw [yy HL]; exact hkn) (oP (yy HT) hpr))
        rw [hpr] at hq
        refine wp_region_quiet_below (by kernel_rfl) (by kernel_rfl) ?_
        repeat (go_big_quiet_step (first | (with_reducible exact Calls.regrown_of (yy cI _)) | (with_reducible exact Calls.regrown_of (yy cR _)) | (with_reducible exact Calls.regrown_of (yy cW _)) | (with_reducible exact Calls.regrown_of (yy cP _))))
        refine wpQuiet_nil ?_
        intro _ hw'
        obtain ⟨⟨dq, osq⟩, hw''⟩ := hw'
        subst hw''
        have hx := aj (yy HB1) (below_regrown W1 dq osq)
        go_wp2_with fail
        go_ret
        exact ⟨by rw [yy HO]; rfl, hx⟩
       ·rw [hpr] at hq
        have HM : Hid (aH s2 s3 s4 = true) := yz (by unfold aH; rw [hr, hwi]; rfl)
        have HI := yz hid
        have HPR := yz hpr
        refine wp_region_quiet_below (by kernel_rfl) (by kernel_rfl) ?_
        repeat (go_big_quiet_step (first | (with_reducible exact Calls.regrown_of (yy cI _)) | (with_reducible exact Calls.regrown_of (yy cR _)) | (with_reducible exact Calls.regrown_of (yy cW _)) | (with_reducible exact Calls.regrown_of (yy cP _))))
        refine wpQuiet_nil ?_
        intro _ hw'
        obtain ⟨⟨dq, osq⟩, hw''⟩ := hw'
        subst hw''
        have hx := below_regrown W1 dq osq
        have hb2 := aj (yy HB1) hx
        have hn2 := (yy HN1).kept (vlt (yy HN1)) hx
        generalize grow (redrawn W1 dq) osq = W2 at hb2 hn2 hx ⊢
        have HB2 := yz hb2
        have HN2 := yz hn2
        clear hx hb2 hn2 r0 r1 r2 q0 hq cI cR cW cP hid hpr hwi hr HB1 HN1 q1 hup2
        go_wp2_with fail
        go_loopw [5] (fun i wr => ∃ m : Nat, m ≤ k ∧ i = .int .i64 m ∧ Hid (jm L (stA L (k)) m) ∧ Hid (Below w.heap.size w wr) ∧ Hid (aB wr vb s2 s3 s4)) (fun i _ => (k) - (intOf i).toNat)
        case atStart => exact ⟨0, by omega, rfl, yz (fun j hj => absurd hj (Nat.not_lt_zero _)), HB2, HN2⟩
        case round =>
         obtain ⟨m, hm, rfl, HE, HB3, HN3⟩ := hrel
         by_cases hmk : m < k
         ·obtain ⟨⟨t1, t2, t3, t4⟩, ht⟩ : ∃ s, stA L m = s := ⟨_, rfl⟩
          have hst := ((yy HC) m (by omega)).kept hb (yy HB3)
          rw [ht] at hst
          have hmn : (m : Int) < (n : Int) := by omega
          have hmj : (m : Int) < (k : Int) := by omega
          obtain ⟨_, g1, g2, g3⟩ := hst
          have k1 := cell_regrown g1
          have k2 := cell_regrown g2
          have k3 := cell_regrown g3
          clear g1 g2 g3
          obtain ⟨v0, v1, v2⟩ := yy HN3
          have r0 := cell_regrown v0
          have r1 := cell_regrown v1
          have r2 := cell_regrown v2
          clear v0 v1 v2
          have HQ : Hid (jN (stA L k) (stA L m) = (eqB (crW t3 t4 s3 s4) (crW t4 t2 s4 s2) (crW t2 t3 s2 s3) 0 0 0 && decide (0 < bf t2 t3 t4 s2 s3 s4))) := yz (by
           have hsm := di ((yy HF) m (by omega))
           rw [ht] at hsm
           have e := tw hsm (yy HM)
           rw [pQ hsm (yy HM)] at e
           rw [ht, yy HT]
           exact e.symm)
          have cE := yz (fun W => gg t2 t3 t4 s2 s3 s4 W)
          generalize (eqB (crW t3 t4 s3 s4) (crW t4 t2 s4 s2) (crW t2 t3 s2 s3) 0 0 0 && decide (0 < bf t2 t3 t4 s2 s3 s4)) = y at HQ cE
          clear ht
          go_wp2_with fail
          refine wp_region_quiet_below (by kernel_rfl) (by kernel_rfl) ?_
          repeat (go_big_quiet_step (first | (with_reducible exact Calls.regrown_of (yy cE _))))
          refine wpQuiet_nil ?_
          intro _ hw'
          obtain ⟨⟨dq, osq⟩, hw''⟩ := hw'
          subst hw''
          have hx := below_regrown wr dq osq
          have hb4 := aj (yy HB3) hx
          have hn4 := (yy HN3).kept (vlt (yy HN3)) hx
          generalize grow (redrawn wr dq) osq = W4 at hx hb4 hn4 ⊢
          have HB4 := yz hb4
          have HN4 := yz hn4
          clear hx hb4 hn4 r0 r1 r2 k1 k2 k3 cE HB3 HN3
          cases y
          ·go_wp2_with fail
           go_roundw
           case rel => exact ⟨m + 1, by omega, by go_num, yz (my (yy HE) (yy HQ)), HB4, HN4⟩
           case measure => simp [intOf]; omega
          ·have HO : Hid (aL L = false) := yz (fg (k := k) (by rw [yy HL]; exact hkn) (sE (mO hmk (yy HQ))))
           go_wp2_with fail
           go_ret
           exact ⟨by rw [yy HO]; rfl, yy HB4⟩
         ·have hmk' : m = k := by omega
          subst hmk'
          have HF2 := yz (nH (yy HF) (oQ (yy HT) (yy HI) (yy HU) (yy HM) (yy HPR) (lK (yy HE))))
          go_wp2_with fail
          go_roundw
          case rel => exact ⟨m + 1, by omega, by go_num, HF2, HB3⟩
          case measure => simp [intOf]; omega
  ·have hkn' : k = n := by omega
   subst hkn'
   have HO := yz (nQ (L := L) (by rw [yy HL]; omega) (by rw [yy HL]; exact yy HF))
   go_wp2_with fail
   go_ret
   exact ⟨by rw [yy HO]; rfl, yy HB⟩
def rK (w : World) (b o : Nat) : Prop := w.frozen? ⟨b, o, none⟩ = false ∧ w.frozen? ⟨b, o + 1, none⟩ = false ∧ w.frozen? ⟨b, o + 2, none⟩ = false ∧ w.frozen? ⟨b, o + 3, none⟩ = false
theorem rK.kept {w w' : World} {b o : Nat} (h : rK w b o) (hb : b < w.heap.size) (hB : Below w.heap.size w w') : rK w' b o := by
 obtain ⟨h0, h1, h2, h3⟩ := h
 exact ⟨by rw [hB.frozen (p := ⟨b, o, none⟩) hb]; exact h0, by rw [hB.frozen (p := ⟨b, o + 1, none⟩) hb]; exact h1, by rw [hB.frozen (p := ⟨b, o + 2, none⟩) hb]; exact h2, by rw [hB.frozen (p := ⟨b, o + 3, none⟩) hb]; exact h3⟩
def jY (w : World) (b n : Nat) (L : List St) (k : Nat) : Prop := ∃ cur : Array Value, w.heap[b]? = some (.cells cur 69 (0, 0)) ∧ cur.size = n * 4 ∧
 ∀ j, j < k → cur[j * 4]? = some (.int .i64 (stA L j).1) ∧ cur[j * 4 + 1]? = some (.int .i64 (stA L j).2.1) ∧ cur[j * 4 + 2]? = some (.int .i64 (stA L j).2.2.1) ∧ cur[j * 4 + 3]? = some (.int .i64 (stA L j).2.2.2)
theorem jY.lt {w : World} {b n k : Nat} {L : List St} (h : jY w b n L k) : b < w.heap.size := by
 obtain ⟨cur, hc, _⟩ := h
 exact (Array.getElem?_eq_some_iff.1 hc).1
theorem jY.kept {w w' : World} {b n k : Nat} {L : List St} (h : jY w b n L k) (hB : Below w.heap.size w w') : jY w' b n L k := by
 have hl := h.lt
 obtain ⟨cur, hc, r⟩ := h
 exact ⟨cur, by rw [hB.block b hl]; exact hc, r⟩
theorem jY.stars {w : World} {b n k : Nat} {L : List St} (h : jY w b n L k) : aJ w (some ⟨b, 0, none⟩) L k := by
 have hl := h.lt
 obtain ⟨cur, hc, _, hs⟩ := h
 refine .inr ⟨b, 0, rfl, hl, fun i hi => ?_⟩
 obtain ⟨h0, h1, h2, h3⟩ := hs i hi
 rw [Nat.zero_add]
 exact ⟨by rw [cell_of_row w b _ cur _ _ hc]; exact h0, by rw [cell_of_row w b _ cur _ _ hc]; exact h1, by rw [cell_of_row w b _ cur _ _ hc]; exact h2, by rw [cell_of_row w b _ cur _ _ hc]; exact h3⟩
theorem jY.free {w : World} {b n k : Nat} {L : List St} (h : jY w b n L k) (i : Nat) : w.frozen? ⟨b, i, none⟩ = false := by
 obtain ⟨cur, hc, _⟩ := h
 exact frozen_of_row w b i cur _ hc
theorem rh : (Tryz.prog.info? 69).map (fun i => (i.zero, i.size, i.bytes)) = some (some (.agg #[.int .i64 0, .int .i64 0, .int .i64 0, .int .i64 0]), 4, 32) := by kernel_rfl
def js (L : List St) (id : Int) (k : Nat) : Prop := ∀ j, j < k → (stA L j).1 ≠ id
def atV (L : List St) (n : Nat) (id : Int) : Int × Int × Int := match (List.range n).find? (fun j => decide ((stA L j).1 = id)) with | none => (0, 0, 0) | some j => (stA L j).2
theorem kn {L : List St} {n : Nat} {id : Int} (h : js L id n) : atV L n id = (0, 0, 0) := by
 unfold atV
 have : (List.range n).find? (fun j => decide ((stA L j).1 = id)) = none := by
  rw [List.find?_eq_none]
  intro j hj
  simp [h j (List.mem_range.1 hj)]
 rw [this]
theorem pr {L : List St} {n k : Nat} {id : Int} (hk : k < n) (h : js L id k) (h1 : (stA L k).1 = id) : atV L n id = (stA L k).2 := by
 unfold atV
 have : (List.range n).find? (fun j => decide ((stA L j).1 = id)) = some k := by
  rw [List.find?_range_eq_some]
  exact ⟨by simp [h1], List.mem_range.2 hk, fun j hj => by simp [h j hj]⟩
 rw [this]
theorem mH {L : List St} {k : Nat} {id : Int} (h : js L id k) (h1 : (stA L k).1 ≠ id) : js L id (k + 1) := by
 intro j hj
 by_cases e : j = k
 ·rw [e]; exact h1
 ·exact h j (by omega)
def fx (L : List St) (id : Int) : Int × Int × Int := if aL L = true then atV L L.length id else (0, 0, 0)
def mb (v : Int × Int × Int) : Value := .agg #[.int .i64 v.1, .int .i64 v.2.1, .int .i64 v.2.2]
theorem gD (L : List St) (n : Nat) (id : Int) (a : Option Addr) (c : Nat) (w : World) (hn : n ≤ 1048576) (hS : aJ w a L n) :
  Calls Tryz.prog 70 #[.slice a n c, .int .i64 id] w fun e w' => e = .returned (mb (atV L n id)) ∧ Below w.heap.size w w' := by
 rcases hS with rfl | ⟨b, o, rfl, hb, hc⟩
 ·have HO : Hid (atV L 0 id = (0, 0, 0)) := yz (kn (fun j hj => absurd hj (Nat.not_lt_zero _)))
  go_enter Tryz.func70, Tryz.ntmps70
  go_wp2_with fail
  refine wp_loop_rounds 1 ?_
  rw [rounds_succ]
  go_wp2_with fail
  exact bodyPost_ret (v := .agg #[.int .i64 0, .int .i64 0, .int .i64 0]) (by simp [results, Tryz.results70, go_sem]) rfl ⟨by rw [yy HO]; rfl, ak _ _⟩
 go_enter Tryz.func70, Tryz.ntmps70
 go_wp2_with fail
 have hv := aA w 0 0 0 67
 have hf := bk w 0 0 0 67
 have hB := ak w (.cells #[.int .i64 0, .int .i64 0, .int .i64 0] 67)
 generalize w.alloc (.cells #[.int .i64 0, .int .i64 0, .int .i64 0] 67) = W at hv hf hB ⊢
 have HC : Hid (∀ i, i < n → im W b (o + i * 4) (stA L i)) := yz (fun i hi => (hc i hi).kept hb hB)
 have HB := yz hB
 clear hc hB
 obtain ⟨v0, v1, v2⟩ := hv
 obtain ⟨f0, f1, f2⟩ := hf
 go_loop [5] (fun i => ∃ k : Nat, k ≤ n ∧ i = .int .i64 k ∧ Hid (js L id k)) (fun i => n - (intOf i).toNat)
 case atStart => exact ⟨0, by omega, rfl, yz (fun j hj => absurd hj (Nat.not_lt_zero _))⟩
 case round =>
  obtain ⟨k, hk, rfl, HF⟩ := hrel
  by_cases hkn : k < n
  ·obtain ⟨⟨s1, s2, s3, s4⟩, hs⟩ : ∃ s, stA L k = s := ⟨_, rfl⟩
   have hst := (yy HC) k hkn
   rw [hs] at hst
   obtain ⟨c0, c1, c2, c3⟩ := hst
   have HT := yz hs
   clear hs
   by_cases hq : s1 = id
   ·have HO : Hid (atV L n id = (s2, s3, s4)) := yz (by rw [pr hkn (yy HF) (by rw [yy HT]; exact hq), yy HT])
    have hq' : (s1 == id) = true := by simp [hq]
    clear hq
    go_wp2_with fail
    exact bodyPost_ret (v := .agg #[.int .i64 s2, .int .i64 s3, .int .i64 s4]) (by simp [results, Tryz.results70, go_sem, v0, v1, v2]) rfl ⟨by rw [yy HO]; rfl, aQ (yy HB) (Nat.le_refl _) _ _ _⟩
   ·have HF2 := yz (mH (yy HF) (by rw [yy HT]; exact hq))
    have hq' : (s1 == id) = false := by simp [hq]
    clear hq
    go_wp2_with fail
    go_round
    case rel => exact ⟨k + 1, by omega, by go_num, HF2⟩
    case measure => simp [intOf]; omega
  ·have hkn' : k = n := by omega
   subst hkn'
   have HO := yz (kn (yy HF))
   go_wp2_with fail
   exact bodyPost_ret (v := .agg #[.int .i64 0, .int .i64 0, .int .i64 0]) (by simp [results, Tryz.results70, go_sem, v0, v1, v2]) rfl ⟨by rw [yy HO]; rfl, aQ (yy HB) (Nat.le_refl _) _ _ _⟩
theorem lC (L : List St) (id : Int) (a : Option Addr) (c : Nat) (w : World) (hn : L.length ≤ 1048576) (hS : aJ w a L L.length) :
  Calls Tryz.prog 52 #[.slice a L.length c, .int .i64 id] w fun e w' => e = .returned (mb (fx L id)) ∧ Below w.heap.size w w' := by
 have cS := yz (fun (W : World) hW => dl L a c W hn hW)
 have cA := yz (fun (W : World) hW => gD L L.length id a c W hn hW)
 have HS := yz hS
 clear hS
 have HV := yz (show fx L id = if aL L = true then atV L L.length id else (0, 0, 0) from rfl)
 have H12 : Hid (aL L = true → L.length ≤ 12) := yz (fun h => (bm h).1)
 generalize L.length = n at *
 have V0 := yz (aA w 0 0 0 67)
 have F0 := yz (bk w 0 0 0 67)
 have B0 := yz (ak w (.cells #[.int .i64 0, .int .i64 0, .int .i64 0] 67))
 by_cases hbig : (400 : Int) < (n : Int)
 ·have hk : ¬ aL L = true := fun h => by have := yy H12 h; omega
  rw [if_neg hk] at HV
  clear hk
  go_enter Tryz.func52, Tryz.ntmps52
  go_wp2_with fail
  exact bodyPost_ret (v := .agg #[.int .i64 0, .int .i64 0, .int .i64 0]) (by simp [results, Tryz.results52, go_sem]) rfl ⟨by rw [yy HV]; rfl, yy B0⟩
 have hbig' : decide ((400 : Int) < (n : Int)) = false := by simpa using hbig
 go_enter Tryz.func52, Tryz.ntmps52
 go_wp2_with fail
 refine (yy cS _ ((yy HS).kept (yy B0))).mono ?_
 rintro e w1 ⟨rfl, hx⟩
 have HB := yz (aj (yy B0) hx)
 have V1 := yz ((yy V0).kept (by simp) hx)
 have F1 := yz ((yy F0).kept (by simp) hx)
 clear hx V0 F0 B0
 cases hk : aL L
 ·rw [hk] at HV
  obtain ⟨v0, v1, v2⟩ := yy V1
  obtain ⟨f0, f1, f2⟩ := yy F1
  clear hk
  go_wp2_with fail
  exact bodyPost_ret (v := .agg #[.int .i64 0, .int .i64 0, .int .i64 0]) (by simp [results, Tryz.results52, go_sem, v0, v1, v2]) rfl ⟨by rw [yy HV]; rfl, aQ (yy HB) (Nat.le_refl _) _ _ _⟩
 ·rw [hk] at HV
  clear hk
  go_wp2_with fail
  refine (yy cA _ ((yy HS).kept (yy HB))).mono ?_
  rintro e w2 ⟨rfl, hx⟩
  have HB2 := yz (aj (yy HB) hx)
  obtain ⟨v0, v1, v2⟩ := (yy V1).kept (vlt (yy V1)) hx
  obtain ⟨f0, f1, f2⟩ := (yy F1).kept (vlt (yy V1)) hx
  clear hx HB V1 F1
  obtain ⟨⟨t1, t2, t3⟩, ht⟩ : ∃ v, atV L n id = v := ⟨_, rfl⟩
  have HV2 : Hid (fx L id = (t1, t2, t3)) := yz (by rw [yy HV, ht]; rfl)
  rw [ht]
  unfold mb
  clear ht
  go_wp2_with fail
  exact bodyPost_ret (v := .agg #[.int .i64 t1, .int .i64 t2, .int .i64 t3]) (by simp [results, Tryz.results52, go_sem, v0, v1, v2]) rfl ⟨by rw [yy HV2]; rfl, aQ (yy HB2) (Nat.le_refl _) _ _ _⟩
theorem pV (L : List St) (id : Int) (a : Option Addr) (c : Nat) (p : Addr) (w : World) (hn : L.length ≤ 1048576) (hcap : L.length ≤ c) (hc9 : c ≤ 9223372036854775807) (hS : aJ w a L L.length) (hE : bg p w) :
  Calls Tryz.prog 67 #[.slice a L.length c, .int .i64 id] w fun e w' => e = .returned (mb (fx L id)) ∧ Below w.heap.size w w' := by
 have cS := yz (fun (W : World) hW hE => eD L a c p W hn hcap hc9 hW hE)
 have HS := yz hS
 have HE := yz hE
 clear hS hE
 have HV := yz (show fx L id = if aL L = true then atV L L.length id else (0, 0, 0) from rfl)
 generalize L.length = n at *
 have V0 := yz (aA w 0 0 0 67)
 have F0 := yz (bk w 0 0 0 67)
 have B0 := yz (ak w (.cells #[.int .i64 0, .int .i64 0, .int .i64 0] 67))
 go_enter Tryz.func67, Tryz.ntmps67
 go_wp2_with fail
 refine (yy cS _ ((yy HS).kept (yy B0)) ((yy HE).kept (yy B0))).mono ?_
 rintro e w1 ⟨rfl, hx⟩
 have HB := yz (aj (yy B0) hx)
 have V1 := yz ((yy V0).kept (by simp) hx)
 have F1 := yz ((yy F0).kept (by simp) hx)
 clear hx V0 F0 B0
 cases hk : aL L
 ·rw [hk] at HV
  obtain ⟨v0, v1, v2⟩ := yy V1
  obtain ⟨f0, f1, f2⟩ := yy F1
  clear hk
  go_wp2_with fail
  exact bodyPost_ret (v := .agg #[.int .i64 0, .int .i64 0, .int .i64 0]) (by simp [results, Tryz.results67, go_sem, v0, v1, v2]) rfl ⟨by rw [yy HV]; rfl, aQ (yy HB) (Nat.le_refl _) _ _ _⟩
 rw [hk] at HV
 have HV' : Hid (fx L id = atV L n id) := yz (by rw [yy HV]; rfl)
 clear hk HV
 rcases yy HS with rfl | ⟨b, o, rfl, hb, hc⟩
 ·have HO : Hid (atV L 0 id = (0, 0, 0)) := yz (kn (fun j hj => absurd hj (Nat.not_lt_zero _)))
  obtain ⟨v0, v1, v2⟩ := yy V1
  obtain ⟨f0, f1, f2⟩ := yy F1
  go_wp2_with fail
  refine wp_loop_rounds 1 ?_
  rw [rounds_succ]
  go_wp2_with fail
  exact bodyPost_ret (v := .agg #[.int .i64 0, .int .i64 0, .int .i64 0]) (by simp [results, Tryz.results67, go_sem, v0, v1, v2]) rfl ⟨by rw [yy HV', yy HO]; rfl, aQ (yy HB) (Nat.le_refl _) _ _ _⟩
 have HC := yz hc
 clear hc
 go_wp2_with fail
 go_loopw [13] (fun i wr => ∃ k : Nat, k ≤ n ∧ i = .int .i64 k ∧ Hid (js L id k) ∧ Hid (Below w.heap.size w wr) ∧ Hid (aB wr w.heap.size 0 0 0) ∧ Hid (bO wr w.heap.size)) (fun i _ => n - (intOf i).toNat)
 case atStart => exact ⟨0, by omega, rfl, yz (fun j hj => absurd hj (Nat.not_lt_zero _)), HB, V1, F1⟩
 case round =>
  clear HB V1 F1
  obtain ⟨k, hk, rfl, HF, HB, V1, F1⟩ := hrel
  by_cases hkn : k < n
  ·obtain ⟨⟨s1, s2, s3, s4⟩, hs⟩ : ∃ s, stA L k = s := ⟨_, rfl⟩
   have hst := ((yy HC) k hkn).kept hb (yy HB)
   rw [hs] at hst
   obtain ⟨c0, c1, c2, c3⟩ := hst
   have HT := yz hs
   clear hs
   have B2 := yz ((yy HB).alloc (yy HB).size (.cells #[.int .i64 s1, .int .i64 s2, .int .i64 s3, .int .i64 s4] 69))
   have V2 := yz ((yy V1).kept (vlt (yy V1)) (ak wr (.cells #[.int .i64 s1, .int .i64 s2, .int .i64 s3, .int .i64 s4] 69)))
   have F2 := yz ((yy F1).kept (vlt (yy V1)) (ak wr (.cells #[.int .i64 s1, .int .i64 s2, .int .i64 s3, .int .i64 s4] 69)))
   obtain ⟨v0, v1, v2⟩ := yy V2
   obtain ⟨f0, f1, f2⟩ := yy F2
   by_cases hq : s1 = id
   ·have HO : Hid (atV L n id = (s2, s3, s4)) := yz (by rw [pr hkn (yy HF) (by rw [yy HT]; exact hq), yy HT])
    have hq' : (s1 == id) = true := by simp [hq]
    clear hq
    go_wp2_with fail
    exact bodyPost_ret (v := .agg #[.int .i64 s2, .int .i64 s3, .int .i64 s4]) (by simp [results, Tryz.results67, go_sem, v0, v1, v2]) rfl ⟨by rw [yy HV', yy HO]; rfl, aQ (yy B2) (Nat.le_refl _) _ _ _⟩
   ·have HF2 := yz (mH (yy HF) (by rw [yy HT]; exact hq))
    have hq' : (s1 == id) = false := by simp [hq]
    clear hq
    go_wp2_with fail
    go_roundw
    case rel => exact ⟨k + 1, by omega, by go_num, HF2, B2, V2, F2⟩
    case measure => simp [intOf]; omega
  ·have hkn' : k = n := by omega
   subst hkn'
   have HO := yz (kn (yy HF))
   obtain ⟨v0, v1, v2⟩ := yy V1
   obtain ⟨f0, f1, f2⟩ := yy F1
   go_wp2_with fail
   exact bodyPost_ret (v := .agg #[.int .i64 0, .int .i64 0, .int .i64 0]) (by simp [results, Tryz.results67, go_sem, v0, v1, v2]) rfl ⟨by rw [yy HV', yy HO]; rfl, aQ (yy HB) (Nat.le_refl _) _ _ _⟩
def Blk (w : World) (b : Nat) (cs : List Value) (t : TypeId) : Prop := w.heap[b]? = some (.cells cs.toArray t (0, 0))
theorem Blk.lt {w : World} {b : Nat} {cs : List Value} {t : TypeId} (h : Blk w b cs t) : b < w.heap.size := (Array.getElem?_eq_some_iff.1 h).1
theorem Blk.kept {w w' : World} {b : Nat} {cs : List Value} {t : TypeId} (h : Blk w b cs t) (hB : Below w.heap.size w w') : Blk w' b cs t := (hB.block b h.lt).trans h
theorem aO (w : World) (cs : List Value) (t : TypeId) : Blk (w.alloc (.cells cs.toArray t)) w.heap.size cs t := heap_alloc_new w _
theorem Blk.alloc {w : World} {b : Nat} {cs : List Value} {t : TypeId} (h : Blk w b cs t) (o : Obj) : Blk (w.alloc o) b cs t := h.kept (ak _ _)
theorem Blk.cell {w : World} {b : Nat} {cs : List Value} {t : TypeId} (h : Blk w b cs t) (i : Nat) (v : Value) (hv : cs[i]? = some v) : w.cell? ⟨b, i, none⟩ = some v := by
 rw [cell_of_row w b i _ _ _ h]; simpa using hv
theorem Blk.free {w : World} {b : Nat} {cs : List Value} {t : TypeId} (h : Blk w b cs t) (i : Nat) : w.frozen? ⟨b, i, none⟩ = false := frozen_of_row w b i _ _ h
theorem Blk.set {w : World} {b : Nat} {cs : List Value} {t : TypeId} (h : Blk w b cs t) (i : Nat) (v : Value) : Blk (w.setCell ⟨b, i, none⟩ v) b (cs.set i v) t := by
 have := heap_setCell_same w b i _ _ v h
 unfold Blk
 rw [this]
 simp
theorem Blk.other {w : World} {b : Nat} {cs : List Value} {t : TypeId} (h : Blk w b cs t) (a : Addr) (v : Value) (hne : b ≠ a.block) : Blk (w.setCell a v) b cs t := by
 unfold Blk
 rw [heap_setCell_other w a b v hne]
 exact h
def mT (w : World) (b n : Nat) (f : Nat → Int) : Prop := ∀ j, j < n → w.cell? ⟨b, j, none⟩ = some (.int .u8 (f j)) ∧ w.frozen? ⟨b, j, none⟩ = false
theorem mT.kept {w w' : World} {b n : Nat} {f : Nat → Int} (h : mT w b n f) (hb : b < w.heap.size) (hB : Below w.heap.size w w') : mT w' b n f := fun j hj =>
 ⟨by rw [hB.cell (p := ⟨b, j, none⟩) hb]; exact (h j hj).1, by rw [hB.frozen (p := ⟨b, j, none⟩) hb]; exact (h j hj).2⟩
theorem mT.congr {w : World} {b n : Nat} {f f' : Nat → Int} (h : mT w b n f) (e : ∀ j, j < n → f j = f' j) : mT w b n f' := fun j hj => ⟨by rw [(h j hj).1, e j hj], (h j hj).2⟩
theorem mT.set {w : World} {b n : Nat} {f : Nat → Int} (h : mT w b n f) (i : Nat) (hi : i < n) (v : Int) : mT (w.setCell ⟨b, i, none⟩ (.int .u8 v)) b n (fun j => if j = i then v else f j) := fun j hj => by
 refine ⟨?_, ?_⟩
 ·show _ = some (Value.int .u8 (if j = i then v else f j))
  by_cases e : j = i
  ·subst e
   rw [if_pos rfl, World.cell?_setCell_same _ _ _ (h j hj).1]
  ·rw [if_neg e, World.cell?_setCell_other _ _ _ _ (fun h => e (by simpa using (congrArg Addr.off h).symm)), (h j hj).1]
 ·rw [← (h j hj).2]
  simp
theorem pt {w : World} {b : Nat} {t : TypeId} {x0 x1 x2 : Value} {r : List Value} (h : Blk w b (x0 :: x1 :: x2 :: r) t) : w.cell? ⟨b, 0, none⟩ = some x0 ∧ w.cell? ⟨b, 1, none⟩ = some x1 ∧ w.cell? ⟨b, 2, none⟩ = some x2 := ⟨h.cell 0 _ rfl, h.cell 1 _ rfl, h.cell 2 _ rfl⟩
theorem pu {w : World} {b : Nat} {t : TypeId} {x0 x1 x2 x3 : Value} {r : List Value} (h : Blk w b (x0 :: x1 :: x2 :: x3 :: r) t) : w.cell? ⟨b, 0, none⟩ = some x0 ∧ w.cell? ⟨b, 1, none⟩ = some x1 ∧ w.cell? ⟨b, 2, none⟩ = some x2 ∧ w.cell? ⟨b, 3, none⟩ = some x3 := ⟨h.cell 0 _ rfl, h.cell 1 _ rfl, h.cell 2 _ rfl, h.cell 3 _ rfl⟩
theorem kD {w : World} {b : Nat} {t : TypeId} {x0 x1 x2 x3 x4 : Value} {r : List Value} (h : Blk w b (x0 :: x1 :: x2 :: x3 :: x4 :: r) t) : w.cell? ⟨b, 0, none⟩ = some x0 ∧ w.cell? ⟨b, 1, none⟩ = some x1 ∧ w.cell? ⟨b, 2, none⟩ = some x2 ∧ w.cell? ⟨b, 3, none⟩ = some x3 ∧ w.cell? ⟨b, 4, none⟩ = some x4 := ⟨h.cell 0 _ rfl, h.cell 1 _ rfl, h.cell 2 _ rfl, h.cell 3 _ rfl, h.cell 4 _ rfl⟩
theorem bfs3 {w : World} {b : Nat} {t : TypeId} {cs : List Value} (h : Blk w b cs t) : w.frozen? ⟨b, 0, none⟩ = false ∧ w.frozen? ⟨b, 1, none⟩ = false ∧ w.frozen? ⟨b, 2, none⟩ = false := ⟨h.free 0, h.free 1, h.free 2⟩
theorem mW {w : World} {b : Nat} {t : TypeId} {cs : List Value} (h : Blk w b cs t) : w.frozen? ⟨b, 0, none⟩ = false ∧ w.frozen? ⟨b, 1, none⟩ = false ∧ w.frozen? ⟨b, 2, none⟩ = false ∧ w.frozen? ⟨b, 3, none⟩ = false ∧ w.frozen? ⟨b, 4, none⟩ = false := ⟨h.free 0, h.free 1, h.free 2, h.free 3, h.free 4⟩
abbrev V3 := Int × Int × Int
def po (w : World) (b : Nat) (x y : Int) : Prop := w.cell? ⟨b, 0, none⟩ = some (.int .i64 x) ∧ w.cell? ⟨b, 1, none⟩ = some (.int .i64 y)
theorem po.kept {w w' : World} {b : Nat} {x y : Int} (h : po w b x y) (hB : Below w.heap.size w w') : po w' b x y := by
 have hb := World.block_lt_of_cell? w _ h.1
 exact ⟨by rw [hB.cell (p := ⟨b, 0, none⟩) hb]; exact h.1, by rw [hB.cell (p := ⟨b, 1, none⟩) hb]; exact h.2⟩
end
end Go.Proofs.YtoakkmjcbnfljaaGreatDoor
