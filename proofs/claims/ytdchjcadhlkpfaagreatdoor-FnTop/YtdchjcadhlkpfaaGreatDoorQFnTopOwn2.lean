/- Several texts in one: SkyC, SkyD, SkyE, SkyF, SkyG, TurnMath, TurnMath2, TurnA, TurnB, SkyI, MaM, DsM. -/
import Derived.Lib.QuietBelow
import Derived.BigQuiet
import Derived.OwnWalk
import Derived.Laws.OwnMore
import Derived.Deep.QuietTactic
import Derived.Lib.Split
import Derived.Lib.SplitLaws
import Derived.Lib.IndexLaws
import Derived.Lib.IndexBytes
import Derived.Test.YtdchjcadhlkpfaaGreatDoorQFnTopOwn1
namespace Go.Proofs.YtdchjcadhlkpfaaGreatDoor
set_option linter.unusedVariables false
set_option linter.unusedSimpArgs false
set_option maxRecDepth 100000
set_option maxHeartbeats 8000000
section
open Go.RowKit Go.Sort
def tS : ByteArray := ⟨#[97, 110, 32, 73, 100, 32, 105, 115, 32, 110, 111, 116, 32, 49, 32, 116, 111, 32, 57, 57, 57, 57]⟩
def vq : ByteArray := ⟨#[116, 104, 101, 32, 73, 100, 115, 32, 97, 114, 101, 32, 110, 111, 116, 32, 114, 105, 115, 105, 110, 103]⟩
def nK : ByteArray := ⟨#[97, 32, 115, 116, 97, 114, 32, 105, 115, 32, 97, 116, 32, 110, 111, 32, 115, 109, 97, 108, 108, 32, 100, 105, 114, 101, 99, 116, 105, 111, 110, 32, 116, 104, 97, 116, 32, 105, 115, 32, 105, 116, 115, 32, 111, 119, 110, 32, 112, 114, 105, 109, 101]⟩
def pi : ByteArray := ⟨#[116, 119, 111, 32, 115, 116, 97, 114, 115, 32, 97, 114, 101, 32, 116, 104, 101, 32, 115, 97, 109, 101, 32, 119, 97, 121]⟩
def qf : ByteArray := ⟨#[116, 104, 101, 114, 101, 32, 97, 114, 101, 32, 116, 111, 111, 32, 109, 97, 110, 121, 32, 115, 116, 97, 114, 115]⟩
def bJ (why : ByteArray) : Value := .iface 204 (.agg #[.string why])
def dj (L : List St) (i : Nat) : Value :=
 if idB (stA L i).1 = false then bJ tS else if upB L i = false then bJ vq
 else if (ba (stA L i).2.1 (stA L i).2.2.1 (stA L i).2.2.2 && fV (stA L i).2.1 (stA L i).2.2.1 (stA L i).2.2.2) = false then bJ nK
 else if dt L (stA L i) i = true then bJ pi else .nilIface
theorem uX {L : List St} {i : Nat} (h : fl L i = true) : dj L i = .nilIface := by
 unfold fl at h
 simp only [Bool.and_eq_true, Bool.not_eq_true'] at h
 obtain ⟨⟨⟨h1, h2⟩, h3, h4⟩, h5⟩ := h
 unfold dj
 simp [h1, h2, h3, h4, h5]
theorem qt {L : List St} {i : Nat} (h : fl L i = false) : ∃ why, dj L i = bJ why := by
 unfold dj
 split
 ·exact ⟨_, rfl⟩
 ·split
  ·exact ⟨_, rfl⟩
  ·split
   ·exact ⟨_, rfl⟩
   ·split
    ·exact ⟨_, rfl⟩
    ·rename_i h1 h2 h3 h4
     exfalso
     simp only [Bool.not_eq_false, Bool.not_eq_true] at h1 h2 h3 h4
     unfold fl at h
     rw [h1, h2, h3, h4] at h
     simp at h
theorem cq (w : World) (s : St) (t : TypeId) : jZ (w.alloc (.cells #[.int .i64 s.1, .int .i64 s.2.1, .int .i64 s.2.2.1, .int .i64 s.2.2.2] t)) w.heap.size 0 s := by
 refine ⟨?_, ?_, ?_, ?_⟩ <;> simp
theorem lk (L : List St) (i : Nat) (s1 s2 s3 s4 : Int) (a : Option Addr) (c : Nat) (w : World) (hi : i ≤ 1048576) (hs : stA L i = (s1, s2, s3, s4)) (hS : aL w a L i) :
  Calls Tryz.prog 158 #[.agg #[.int .i64 s1, .int .i64 s2, .int .i64 s3, .int .i64 s4], .slice a i c] w fun e w' => e = .returned (dj L i) ∧ Below w.heap.size w w' := by
 have HS := yz hs
 clear hs
 have HA := yz hS
 clear hS
 have HB := yz (an w (.cells #[.int .i64 s1, .int .i64 s2, .int .i64 s3, .int .i64 s4] 74))
 have HN := yz (cq w (s1, s2, s3, s4) 74)
 by_cases h1 : s1 < 1
 ·have HO : Hid (dj L i = bJ tS) := yz (by unfold dj; rw [if_pos (by rw [yy HS]; unfold idB; simp; omega)])
  go_enter Tryz.func158, Tryz.ntmps158
  go_wp2
  go_ret
  exact ⟨by rw [yy HO]; rfl, yy HB⟩
 by_cases h2 : 9999 < s1
 ·have HO : Hid (dj L i = bJ tS) := yz (by unfold dj; rw [if_pos (by rw [yy HS]; unfold idB; simp; omega)])
  go_enter Tryz.func158, Tryz.ntmps158
  go_wp2
  go_ret
  exact ⟨by rw [yy HO]; rfl, yy HB⟩
 have K0 : Hid (¬ idB (stA L i).1 = false) := yz (by rw [yy HS]; unfold idB; simp; omega)
 by_cases hu : upB L i = false
 ·have HO : Hid (dj L i = bJ vq) := yz (by unfold dj; rw [if_neg (yy K0), if_pos hu])
  obtain ⟨j, rfl⟩ : ∃ j, i = j + 1 := ⟨i - 1, by unfold upB at hu; simp at hu; omega⟩
  obtain ⟨⟨p1, p2, p3, p4⟩, hp⟩ : ∃ s, stA L j = s := ⟨_, rfl⟩
  have hle : s1 ≤ p1 := by unfold upB at hu; rw [yy HS] at hu; simp [hp] at hu; omega
  rcases yy HA with h0 | ⟨b, o, rfl, hb, hc⟩
  ·omega
  have hst := (hc j (by omega)).kept hb (yy HB)
  rw [hp] at hst
  obtain ⟨c0, _, _, _⟩ := hst
  have hj1 : (j : Int) + 1 - 1 = (j : Int) := by omega
  have hj2 : (0 : Int) < (j : Int) + 1 := by omega
  clear hu hp hc
  go_enter Tryz.func158, Tryz.ntmps158
  go_wp2_with fail
  go_quiet (fail)
  go_wp2_with fail
  go_ret
  exact ⟨by rw [yy HO]; rfl, ak (yy HB) (bC _ _)⟩
 have K1 := yz hu
 clear hu
 rcases Nat.eq_zero_or_pos i with hi0 | hi0
 ·subst hi0
  go_enter Tryz.func158, Tryz.ntmps158
  go_wp2_with fail
  go_quiet (fail)
  go_wp2_with fail
  have hx := ak (yy HB) (bC (w.alloc (.cells #[.int .i64 s1, .int .i64 s2, .int .i64 s3, .int .i64 s4] 74)) nq)
  have hn' := (yy HN).kept (by simp) (bC _ nq)
  generalize (w.alloc (.cells #[.int .i64 s1, .int .i64 s2, .int .i64 s3, .int .i64 s4] 74)).drewN nq = W1 at hx hn' ⊢
  have HB1 := yz hx
  have HN1 := yz hn'
  clear hx hn' HB HN
  obtain ⟨_, c1, c2, c3⟩ := yy HN1
  simp only [Nat.zero_add] at c1 c2 c3
  have r1 := cell_regrown c1
  have r2 := cell_regrown c2
  have r3 := cell_regrown c3
  clear c1 c2 c3
  cases hsm : ba s2 s3 s4
  ·have HO : Hid (dj L 0 = bJ nK) := yz (by unfold dj; rw [if_neg (yy K0), if_neg (yy K1), if_pos (by rw [yy HS]; simp [hsm])])
   have cS : Hid (∀ W : World, Calls Tryz.prog 172 #[.agg #[.int .i64 s2, .int .i64 s3, .int .i64 s4]] W fun e w' => e = .returned (.bool false) ∧ Below W.heap.size W w') := yz (fun W => (cx s2 s3 s4 W).mono fun e w' h => ⟨by rw [h.1, hsm], h.2⟩)
   clear hsm
   refine wp_region_quiet_below (by kernel_rfl) (by kernel_rfl) ?_
   repeat (quiet_step (first | (with_reducible exact Calls.regrown_of (yy cS _))))
   refine wpQuiet_nil ?_
   intro _ hw'
   obtain ⟨⟨dq, osq⟩, hw''⟩ := hw'
   subst hw''
   have hx := ak (yy HB1) (below_regrown W1 dq osq)
   go_wp2_with fail
   go_ret
   exact ⟨by rw [yy HO]; rfl, hx⟩
  ·have cS : Hid (∀ W : World, Calls Tryz.prog 172 #[.agg #[.int .i64 s2, .int .i64 s3, .int .i64 s4]] W fun e w' => e = .returned (.bool true) ∧ Below W.heap.size W w') := yz (fun W => (cx s2 s3 s4 W).mono fun e w' h => ⟨by rw [h.1, hsm], h.2⟩)
   have cP := yz (fun W => iK s2 s3 s4 W)
   have hq := fun W => mX s2 s3 s4 (prI (aw s2 s3 s4) (gI s2 s3 s4) s2) (prI (aw s2 s3 s4) (gI s2 s3 s4) s3) (prI (aw s2 s3 s4) (gI s2 s3 s4) s4) W
   have hq2 : eqB s2 s3 s4 (prI (aw s2 s3 s4) (gI s2 s3 s4) s2) (prI (aw s2 s3 s4) (gI s2 s3 s4) s3) (prI (aw s2 s3 s4) (gI s2 s3 s4) s4) = fV s2 s3 s4 := rfl
   rw [hq2] at hq
   clear hq2
   generalize prI (aw s2 s3 s4) (gI s2 s3 s4) s2 = t2 at cP hq
   generalize prI (aw s2 s3 s4) (gI s2 s3 s4) s3 = t3 at cP hq
   generalize prI (aw s2 s3 s4) (gI s2 s3 s4) s4 = t4 at cP hq
   cases hpr : fV s2 s3 s4
   ·have HO : Hid (dj L 0 = bJ nK) := yz (by unfold dj; rw [if_neg (yy K0), if_neg (yy K1), if_pos (by rw [yy HS]; simp [hpr])])
    rw [hpr] at hq
    refine wp_region_quiet_below (by kernel_rfl) (by kernel_rfl) ?_
    repeat (quiet_step (first | (with_reducible exact Calls.regrown_of (yy cS _)) | (with_reducible exact Calls.regrown_of (yy cP _))))
    refine wpQuiet_nil ?_
    intro _ hw'
    obtain ⟨⟨dq, osq⟩, hw''⟩ := hw'
    subst hw''
    have hx := below_regrown W1 dq osq
    replace hx := ak (yy HB1) hx
    go_wp2_with fail
    go_ret
    exact ⟨by rw [yy HO]; rfl, hx⟩
   ·have K2 : Hid (¬ (ba (stA L 0).2.1 (stA L 0).2.2.1 (stA L 0).2.2.2 && fV (stA L 0).2.1 (stA L 0).2.2.1 (stA L 0).2.2.2) = false) := yz (by rw [yy HS]; simp [hsm, hpr])
    clear hsm
    rw [hpr] at hq
    refine wp_region_quiet_below (by kernel_rfl) (by kernel_rfl) ?_
    repeat (quiet_step (first | (with_reducible exact Calls.regrown_of (yy cS _)) | (with_reducible exact Calls.regrown_of (yy cP _))))
    refine wpQuiet_nil ?_
    intro _ hw'
    obtain ⟨⟨dq, osq⟩, hw''⟩ := hw'
    subst hw''
    have hx := below_regrown W1 dq osq
    have hn2 := (yy HN1).kept (World.block_lt_of_cell? _ _ (yy HN1).1) hx
    have hb2 := ak (yy HB1) hx
    generalize grow (redrawn W1 dq) osq = W2 at hx hn2 hb2 ⊢
    have HB2 := yz hb2
    clear hx hb2 r1 r2 r3 hq cS cP HN1 HB1
    obtain ⟨_, c1, c2, c3⟩ := hn2
    simp only [Nat.zero_add] at c1 c2 c3
    go_wp2_with fail
    refine (jr L 0 s2 s3 s4 _ _ _ hi ((yy HA).kept (yy HB2))).mono ?_
    rintro e w3 ⟨rfl, hx⟩
    replace hx := ak (yy HB2) hx
    clear HB2 c1 c2 c3
    have ht : dt L (0, s2, s3, s4) 0 = dt L (stA L 0) 0 := by rw [yy HS]; rfl
    rw [ht]
    clear ht
    cases htk : dt L (stA L 0) 0
    ·have HO : Hid (dj L 0 = .nilIface) := yz (by unfold dj; rw [if_neg (yy K0), if_neg (yy K1), if_neg (yy K2), if_neg (by rw [htk]; simp)])
     go_wp2_with fail
     go_ret
     exact ⟨by rw [yy HO]; rfl, hx⟩
    ·have HO : Hid (dj L 0 = bJ pi) := yz (by unfold dj; rw [if_neg (yy K0), if_neg (yy K1), if_neg (yy K2), if_pos htk])
     go_wp2_with fail
     go_ret
     exact ⟨by rw [yy HO]; rfl, hx⟩
 ·obtain ⟨j, rfl⟩ : ∃ j, i = j + 1 := ⟨i - 1, by omega⟩
  obtain ⟨⟨p1, p2, p3, p4⟩, hp⟩ : ∃ s, stA L j = s := ⟨_, rfl⟩
  have hle : p1 < s1 := by have hu := yy K1; unfold upB at hu; rw [yy HS] at hu; simp [hp] at hu; omega
  rcases yy HA with h0 | ⟨b, o, rfl, hb, hc⟩
  ·omega
  have hst := (hc j (by omega)).kept hb (yy HB)
  rw [hp] at hst
  obtain ⟨c0, _, _, _⟩ := hst
  have hj1 : (j : Int) + 1 - 1 = (j : Int) := by omega
  have hj2 : (0 : Int) < (j : Int) + 1 := by omega
  clear hp hc
  go_enter Tryz.func158, Tryz.ntmps158
  go_wp2_with fail
  go_quiet (fail)
  go_wp2_with fail
  clear c0
  have hx := ak (yy HB) (bC (w.alloc (.cells #[.int .i64 s1, .int .i64 s2, .int .i64 s3, .int .i64 s4] 74)) nq)
  have hn' := (yy HN).kept (by simp) (bC _ nq)
  generalize (w.alloc (.cells #[.int .i64 s1, .int .i64 s2, .int .i64 s3, .int .i64 s4] 74)).drewN nq = W1 at hx hn' ⊢
  have HB1 := yz hx
  have HN1 := yz hn'
  clear hx hn' HB HN
  obtain ⟨_, c1, c2, c3⟩ := yy HN1
  simp only [Nat.zero_add] at c1 c2 c3
  have r1 := cell_regrown c1
  have r2 := cell_regrown c2
  have r3 := cell_regrown c3
  clear c1 c2 c3
  cases hsm : ba s2 s3 s4
  ·have HO : Hid (dj L (j + 1) = bJ nK) := yz (by unfold dj; rw [if_neg (yy K0), if_neg (yy K1), if_pos (by rw [yy HS]; simp [hsm])])
   have cS : Hid (∀ W : World, Calls Tryz.prog 172 #[.agg #[.int .i64 s2, .int .i64 s3, .int .i64 s4]] W fun e w' => e = .returned (.bool false) ∧ Below W.heap.size W w') := yz (fun W => (cx s2 s3 s4 W).mono fun e w' h => ⟨by rw [h.1, hsm], h.2⟩)
   clear hsm
   refine wp_region_quiet_below (by kernel_rfl) (by kernel_rfl) ?_
   repeat (quiet_step (first | (with_reducible exact Calls.regrown_of (yy cS _))))
   refine wpQuiet_nil ?_
   intro _ hw'
   obtain ⟨⟨dq, osq⟩, hw''⟩ := hw'
   subst hw''
   have hx := ak (yy HB1) (below_regrown W1 dq osq)
   go_wp2_with fail
   go_ret
   exact ⟨by rw [yy HO]; rfl, hx⟩
  ·have cS : Hid (∀ W : World, Calls Tryz.prog 172 #[.agg #[.int .i64 s2, .int .i64 s3, .int .i64 s4]] W fun e w' => e = .returned (.bool true) ∧ Below W.heap.size W w') := yz (fun W => (cx s2 s3 s4 W).mono fun e w' h => ⟨by rw [h.1, hsm], h.2⟩)
   have cP := yz (fun W => iK s2 s3 s4 W)
   have hq := fun W => mX s2 s3 s4 (prI (aw s2 s3 s4) (gI s2 s3 s4) s2) (prI (aw s2 s3 s4) (gI s2 s3 s4) s3) (prI (aw s2 s3 s4) (gI s2 s3 s4) s4) W
   have hq2 : eqB s2 s3 s4 (prI (aw s2 s3 s4) (gI s2 s3 s4) s2) (prI (aw s2 s3 s4) (gI s2 s3 s4) s3) (prI (aw s2 s3 s4) (gI s2 s3 s4) s4) = fV s2 s3 s4 := rfl
   rw [hq2] at hq
   clear hq2
   generalize prI (aw s2 s3 s4) (gI s2 s3 s4) s2 = t2 at cP hq
   generalize prI (aw s2 s3 s4) (gI s2 s3 s4) s3 = t3 at cP hq
   generalize prI (aw s2 s3 s4) (gI s2 s3 s4) s4 = t4 at cP hq
   cases hpr : fV s2 s3 s4
   ·have HO : Hid (dj L (j + 1) = bJ nK) := yz (by unfold dj; rw [if_neg (yy K0), if_neg (yy K1), if_pos (by rw [yy HS]; simp [hpr])])
    rw [hpr] at hq
    refine wp_region_quiet_below (by kernel_rfl) (by kernel_rfl) ?_
    repeat (quiet_step (first | (with_reducible exact Calls.regrown_of (yy cS _)) | (with_reducible exact Calls.regrown_of (yy cP _))))
    refine wpQuiet_nil ?_
    intro _ hw'
    obtain ⟨⟨dq, osq⟩, hw''⟩ := hw'
    subst hw''
    have hx := below_regrown W1 dq osq
    replace hx := ak (yy HB1) hx
    go_wp2_with fail
    go_ret
    exact ⟨by rw [yy HO]; rfl, hx⟩
   ·have K2 : Hid (¬ (ba (stA L (j + 1)).2.1 (stA L (j + 1)).2.2.1 (stA L (j + 1)).2.2.2 && fV (stA L (j + 1)).2.1 (stA L (j + 1)).2.2.1 (stA L (j + 1)).2.2.2) = false) := yz (by rw [yy HS]; simp [hsm, hpr])
    clear hsm
    rw [hpr] at hq
    refine wp_region_quiet_below (by kernel_rfl) (by kernel_rfl) ?_
    repeat (quiet_step (first | (with_reducible exact Calls.regrown_of (yy cS _)) | (with_reducible exact Calls.regrown_of (yy cP _))))
    refine wpQuiet_nil ?_
    intro _ hw'
    obtain ⟨⟨dq, osq⟩, hw''⟩ := hw'
    subst hw''
    have hx := below_regrown W1 dq osq
    have hn2 := (yy HN1).kept (World.block_lt_of_cell? _ _ (yy HN1).1) hx
    have hb2 := ak (yy HB1) hx
    generalize grow (redrawn W1 dq) osq = W2 at hx hn2 hb2 ⊢
    have HB2 := yz hb2
    clear hx hb2 r1 r2 r3 hq cS cP HN1 HB1
    obtain ⟨_, c1, c2, c3⟩ := hn2
    simp only [Nat.zero_add] at c1 c2 c3
    go_wp2_with fail
    refine (jr L (j + 1) s2 s3 s4 _ _ _ hi ((yy HA).kept (yy HB2))).mono ?_
    rintro e w3 ⟨rfl, hx⟩
    replace hx := ak (yy HB2) hx
    clear HB2 c1 c2 c3
    have ht : dt L (0, s2, s3, s4) (j + 1) = dt L (stA L (j + 1)) (j + 1) := by rw [yy HS]; rfl
    rw [ht]
    clear ht
    cases htk : dt L (stA L (j + 1)) (j + 1)
    ·have HO : Hid (dj L (j + 1) = .nilIface) := yz (by unfold dj; rw [if_neg (yy K0), if_neg (yy K1), if_neg (yy K2), if_neg (by rw [htk]; simp)])
     go_wp2_with fail
     go_ret
     exact ⟨by rw [yy HO]; rfl, hx⟩
    ·have HO : Hid (dj L (j + 1) = bJ pi) := yz (by unfold dj; rw [if_neg (yy K0), if_neg (yy K1), if_neg (yy K2), if_pos htk])
     go_wp2_with fail
     go_ret
     exact ⟨by rw [yy HO]; rfl, hx⟩
def eu (L : List St) : Value := if 12 < L.length then bJ qf else match (List.range L.length).find? (fun i => !fl L i) with | none => .nilIface | some i => dj L i
theorem iD {L : List St} (hl : L.length ≤ 12) (h : oa L L.length) : eu L = .nilIface := by
 unfold eu
 rw [if_neg (by omega)]
 have : (List.range L.length).find? (fun i => !fl L i) = none := by
  rw [List.find?_eq_none]
  intro j hj
  rw [h j (List.mem_range.1 hj)]
  simp
 rw [this]
theorem qV {L : List St} {k : Nat} (hl : L.length ≤ 12) (hk : k < L.length) (h : oa L k) (h1 : fl L k = false) : eu L = dj L k := by
 unfold eu
 rw [if_neg (by omega)]
 have : (List.range L.length).find? (fun i => !fl L i) = some k := by
  rw [List.find?_range_eq_some]
  refine ⟨by rw [h1]; rfl, List.mem_range.2 hk, fun j hj => ?_⟩
  rw [h j hj]
  rfl
 rw [this]
theorem rW {L : List St} (h : be L = false) : ∃ why, eu L = bJ why := by
 unfold eu
 split
 ·exact ⟨_, rfl⟩
 ·rename_i hl
  cases hf : (List.range L.length).find? (fun i => !fl L i) with
  | none =>
   exfalso
   rw [List.find?_eq_none] at hf
   have : be L = true := ut (by omega) (fun j hj => by have := hf j (List.mem_range.2 hj); simpa using this)
   rw [h] at this
   cases this
  | some i =>
   rw [List.find?_range_eq_some] at hf
   exact qt (by simpa using hf.1)
theorem pV {L : List St} (h : be L = true) : eu L = .nilIface := iD (dg h).1 (dg h).2
theorem ik (L : List St) (a : Option Addr) (c : Nat) (w : World) (hn : L.length ≤ 1048576) (hcap : L.length ≤ c) (hc9 : c ≤ 9223372036854775807) (hS : aL w a L L.length) :
  Calls Tryz.prog 124 #[.slice a L.length c] w fun e w' => e = .returned (eu L) ∧ Below w.heap.size w w' := by
 obtain ⟨n, hnl⟩ : ∃ n, L.length = n := ⟨_, rfl⟩
 rw [hnl] at hn hcap hS ⊢
 have HL := yz hnl
 clear hnl
 by_cases h12 : 12 < n
 ·have h12' : (12 : Int) < (n : Int) := by omega
  have HO : Hid (eu L = bJ qf) := yz (by unfold eu; rw [if_pos (by rw [yy HL]; exact h12)])
  clear hS
  go_enter Tryz.func124, Tryz.ntmps124
  go_wp2
  go_ret
  exact ⟨by rw [yy HO]; rfl, Below.refl _ _⟩
 have h12' : ¬ (12 : Int) < (n : Int) := by omega
 rcases hS with rfl | ⟨b, o, rfl, hb, hc⟩
 ·have HO : Hid (eu L = .nilIface) := yz (iD (by rw [yy HL]; omega) (by rw [yy HL]; intro j hj; omega))
  go_enter Tryz.func124, Tryz.ntmps124
  go_wp2_with fail
  refine wp_loop_rounds 1 ?_
  rw [rounds_succ]
  go_wp2_with fail
  go_ret
  exact ⟨by rw [yy HO]; rfl, Below.refl _ _⟩
 have HC := yz hc
 have HS : Hid (aL w (some ⟨b, o, none⟩) L n) := yz (.inr ⟨b, o, rfl, hb, hc⟩)
 clear hc
 go_enter Tryz.func124, Tryz.ntmps124
 go_wp2_with fail
 go_loopw [13] (fun i wr => ∃ k : Nat, k ≤ n ∧ i = .int .i64 k ∧ Hid (oa L k) ∧ Hid (Below w.heap.size w wr)) (fun i _ => n - (intOf i).toNat)
 case atStart => exact ⟨0, by omega, rfl, yz (fun j hj => absurd hj (Nat.not_lt_zero _)), yz (Below.refl _ _)⟩
 case round =>
  obtain ⟨k, hk, rfl, HF, HB⟩ := hrel
  by_cases hkn : k < n
  ·obtain ⟨⟨s1, s2, s3, s4⟩, hs⟩ : ∃ s, stA L k = s := ⟨_, rfl⟩
   have hst := ((yy HC) k hkn).kept hb (yy HB)
   rw [hs] at hst
   obtain ⟨c0, c1, c2, c3⟩ := hst
   have HT := yz hs
   clear hs
   have B1 := yz ((yy HB).alloc (yy HB).size (.cells #[.int .i64 s1, .int .i64 s2, .int .i64 s3, .int .i64 s4] 74))
   have N1 := yz (cq wr (s1, s2, s3, s4) 74)
   go_wp2_with fail
   clear c0 c1 c2 c3
   have hb1 := yy B1
   have hn1 := yy N1
   generalize hwe : wr.alloc (.cells #[.int .i64 s1, .int .i64 s2, .int .i64 s3, .int .i64 s4] 74) = W1 at hb1 hn1 ⊢
   have HB1 := yz hb1
   clear hwe hb1 B1 N1
   obtain ⟨c0, c1, c2, c3⟩ := hn1
   simp only [Nat.zero_add] at c0 c1 c2 c3
   have r0 := cell_regrown c0
   have r1 := cell_regrown c1
   have r2 := cell_regrown c2
   have r3 := cell_regrown c3
   clear c0 c1 c2 c3
   have cW := yz (fun (W : World) (hW : aL W (some ⟨b, o, none⟩) L k) => lk L k s1 s2 s3 s4 (some ⟨b, o, none⟩) k W (by omega) (yy HT) hW)
   have HSk := yz (((yy HS).less (Nat.le_of_lt hkn)).kept (yy HB1))
   have hkc : (k : Int) ≤ (c : Int) := by omega
   refine wp_region_quiet_below (by kernel_rfl) (by kernel_rfl) ?_
   repeat (quiet_step (first | (with_reducible exact Calls.regrown_of (yy cW _ ((yy HSk).kept (below_regrown _ _ _))))))
   refine wpQuiet_nil ?_
   intro _ hw'
   obtain ⟨⟨dq, osq⟩, hw''⟩ := hw'
   subst hw''
   have hx := ak (yy HB1) (below_regrown W1 dq osq)
   generalize grow (redrawn W1 dq) osq = W2 at hx ⊢
   have HB2 := yz hx
   clear hx HB1 HB cW HSk r0 r1 r2 r3
   cases hok : fl L k
   ·obtain ⟨why, hwhy⟩ := qt hok
    have HO := yz (qV (by rw [yy HL]; omega) (by rw [yy HL]; exact hkn) (yy HF) hok)
    rw [hwhy] at HO ⊢
    unfold bJ at HO ⊢
    clear hok hwhy
    go_wp2_with fail
    go_ret
    exact ⟨by rw [yy HO]; rfl, yy HB2⟩
   ·rw [uX hok]
    have HF2 := yz (ve (yy HF) hok)
    clear hok
    go_wp2_with fail
    go_roundw
    case rel => exact ⟨k + 1, by omega, by go_num, HF2, HB2⟩
    case measure => simp [intOf]; omega
  ·have hkn' : k = n := by omega
   subst hkn'
   have HO := yz (iD (L := L) (by rw [yy HL]; omega) (by rw [yy HL]; exact yy HF))
   go_wp2_with fail
   go_ret
   exact ⟨by rw [yy HO]; rfl, yy HB⟩
theorem bY (L : List St) (a : Option Addr) (c : Nat) (p : Addr) (w : World) (hn : L.length ≤ 1048576) (hcap : L.length ≤ c) (hc9 : c ≤ 9223372036854775807) (hS : aL w a L L.length) (hE : aW p w) :
  Calls Tryz.prog 96 #[.slice a L.length c] w fun e w' => e = .returned (.bool (be L)) ∧ Below w.heap.size w w' := by
 have r0 := cell_regrown (show w.cell? ⟨1, 0, none⟩ = some (.iface 267 (.pointer (some p))) from hE)
 have HS := yz hS
 have HE := yz hE
 clear hS hE
 cases hk : be L
 ·obtain ⟨why, hwhy⟩ := rW hk
  have cW : Hid (∀ W : World, aL W a L L.length → Calls Tryz.prog 124 #[.slice a L.length c] W fun e w' => e = .returned (.iface 204 (.agg #[.string why])) ∧ Below W.heap.size W w') := yz (fun W hW => (ik L a c W hn hcap hc9 hW).mono fun e w' h => ⟨by rw [h.1, hwhy]; rfl, h.2⟩)
  have cI := yz (fun (W : World) (hW : aW p W) => tE why p W hW)
  clear hwhy hk
  go_enter Tryz.func96, Tryz.ntmps96
  go_wp2_with fail
  refine wp_region_quiet_below (by kernel_rfl) (by kernel_rfl) ?_
  repeat (quiet_step (first | (with_reducible exact Calls.regrown_of (yy cW _ ((yy HS).kept (below_regrown _ _ _)))) | (with_reducible exact Calls.regrown_of (yy cI _ ((yy HE).kept (below_regrown _ _ _))))))
  refine wpQuiet_nil ?_
  intro _ hw'
  obtain ⟨⟨dq, osq⟩, hw''⟩ := hw'
  subst hw''
  have hx := below_regrown w dq osq
  go_wp2_with fail
  go_ret
  exact ⟨rfl, hx⟩
 ·have cW : Hid (∀ W : World, aL W a L L.length → Calls Tryz.prog 124 #[.slice a L.length c] W fun e w' => e = .returned .nilIface ∧ Below W.heap.size W w') := yz (fun W hW => (ik L a c W hn hcap hc9 hW).mono fun e w' h => ⟨by rw [h.1, pV hk], h.2⟩)
  have cI : Hid (∀ W : World, Calls Tryz.prog 123 #[.nilIface, .iface 267 (.pointer (some p))] W fun e w' => e = .returned (.bool false) ∧ Below W.heap.size W w') := yz (fun W => (vQ p W).mono fun e w' h => ⟨h.1, by rw [h.2]; exact Below.refl _ _⟩)
  clear hk
  go_enter Tryz.func96, Tryz.ntmps96
  go_wp2_with fail
  refine wp_region_quiet_below (by kernel_rfl) (by kernel_rfl) ?_
  repeat (quiet_step (first | (with_reducible exact Calls.regrown_of (yy cW _ ((yy HS).kept (below_regrown _ _ _)))) | (with_reducible exact Calls.regrown_of (yy cI _))))
  refine wpQuiet_nil ?_
  intro _ hw'
  obtain ⟨⟨dq, osq⟩, hw''⟩ := hw'
  subst hw''
  have hx := below_regrown w dq osq
  go_wp2_with fail
  go_ret
  exact ⟨rfl, hx⟩
def ua (w : World) (b o : Nat) : Prop := w.frozen? ⟨b, o, none⟩ = false ∧ w.frozen? ⟨b, o + 1, none⟩ = false ∧ w.frozen? ⟨b, o + 2, none⟩ = false ∧ w.frozen? ⟨b, o + 3, none⟩ = false
theorem ua.kept {w w' : World} {b o : Nat} (h : ua w b o) (hb : b < w.heap.size) (hB : Below w.heap.size w w') : ua w' b o := by
 obtain ⟨h0, h1, h2, h3⟩ := h
 exact ⟨by rw [hB.frozen (p := ⟨b, o, none⟩) hb]; exact h0, by rw [hB.frozen (p := ⟨b, o + 1, none⟩) hb]; exact h1, by rw [hB.frozen (p := ⟨b, o + 2, none⟩) hb]; exact h2, by rw [hB.frozen (p := ⟨b, o + 3, none⟩) hb]; exact h3⟩
def hP (w : World) (b n : Nat) (L : List St) (k : Nat) : Prop := ∃ cur : Array Value, w.heap[b]? = some (.cells cur 74 (0, 0)) ∧ cur.size = n * 4 ∧
 ∀ j, j < k → cur[j * 4]? = some (.int .i64 (stA L j).1) ∧ cur[j * 4 + 1]? = some (.int .i64 (stA L j).2.1) ∧ cur[j * 4 + 2]? = some (.int .i64 (stA L j).2.2.1) ∧ cur[j * 4 + 3]? = some (.int .i64 (stA L j).2.2.2)
theorem hP.lt {w : World} {b n k : Nat} {L : List St} (h : hP w b n L k) : b < w.heap.size := by
 obtain ⟨cur, hc, _⟩ := h
 exact (Array.getElem?_eq_some_iff.1 hc).1
theorem hP.kept {w w' : World} {b n k : Nat} {L : List St} (h : hP w b n L k) (hB : Below w.heap.size w w') : hP w' b n L k := by
 have hl := h.lt
 obtain ⟨cur, hc, r⟩ := h
 exact ⟨cur, by rw [hB.block b hl]; exact hc, r⟩
theorem hP.stars {w : World} {b n k : Nat} {L : List St} (h : hP w b n L k) : aL w (some ⟨b, 0, none⟩) L k := by
 have hl := h.lt
 obtain ⟨cur, hc, _, hs⟩ := h
 refine .inr ⟨b, 0, rfl, hl, fun i hi => ?_⟩
 obtain ⟨h0, h1, h2, h3⟩ := hs i hi
 rw [Nat.zero_add]
 exact ⟨by rw [cell_of_row w b _ cur _ _ hc]; exact h0, by rw [cell_of_row w b _ cur _ _ hc]; exact h1, by rw [cell_of_row w b _ cur _ _ hc]; exact h2, by rw [cell_of_row w b _ cur _ _ hc]; exact h3⟩
theorem hP.free {w : World} {b n k : Nat} {L : List St} (h : hP w b n L k) (i : Nat) : w.frozen? ⟨b, i, none⟩ = false := by
 obtain ⟨cur, hc, _⟩ := h
 exact frozen_of_row w b i cur _ hc
theorem rq : (Tryz.prog.info? 74).map (fun i => (i.zero, i.size, i.bytes)) = some (some (.agg #[.int .i64 0, .int .i64 0, .int .i64 0, .int .i64 0]), 4, 32) := by kernel_rfl
end
section
open Go.RowKit
def inT (m a b c d : Int) : Bool := inB m a && inB m b && inB m c && inB m d
def eT (a b c d : Int) : Bool := decide (a = 0 ∧ b = 0 ∧ c = 0 ∧ d = 0)
def fT (a b c d : Int) : Int := if a ≠ 0 then a else if b ≠ 0 then b else if c ≠ 0 then c else d
def gT (a b c d : Int) : Int := ((Int.gcd ((Int.gcd a b : Nat) : Int) ((Int.gcd c d : Nat) : Int) : Nat) : Int)
def sT (a b c d : Int) : Int := if fT a b c d < 0 then -gT a b c d else gT a b c d
def az (a b c d : Int) : Bool := inT 5 a b c d && decide (0 < fT a b c d) && decide (gT a b c d = 1)
def eqT (a b c d a' b' c' d' : Int) : Bool := decide (a = a' ∧ b = b' ∧ c = c' ∧ d = d')
theorem bw {m a b c d : Int} : inT m a b c d = true ↔ (-m ≤ a ∧ a ≤ m) ∧ (-m ≤ b ∧ b ≤ m) ∧ (-m ≤ c ∧ c ≤ m) ∧ (-m ≤ d ∧ d ≤ m) := by
 simp [inT, dY, and_assoc]
theorem nt {m n a b c d : Int} (h : inT m a b c d = true) (hmn : m ≤ n) : inT n a b c d = true := by
 rw [bw] at h ⊢; omega
theorem pY {a b c d : Int} : fT a b c d = 0 ↔ (a = 0 ∧ b = 0 ∧ c = 0 ∧ d = 0) := by
 unfold fT
 split
 ·omega
 ·split
  ·omega
  ·split <;> omega
theorem vx (a b c d : Int) : fT a b c d = a ∨ fT a b c d = b ∨ fT a b c d = c ∨ fT a b c d = d := by
 unfold fT
 split
 ·exact .inl rfl
 ·split
  ·exact .inr (.inl rfl)
  ·split
   ·exact .inr (.inr (.inl rfl))
   ·exact .inr (.inr (.inr rfl))
theorem qC (a b c d : Int) : 0 ≤ gT a b c d := Int.natCast_nonneg _
theorem vY {a b c d : Int} (h : ¬ (a = 0 ∧ b = 0 ∧ c = 0 ∧ d = 0)) : 0 < gT a b c d := by
 unfold gT
 have h2 : Int.gcd ((Int.gcd a b : Nat) : Int) ((Int.gcd c d : Nat) : Int) ≠ 0 := by
  intro e
  rw [Int.gcd_eq_zero_iff] at e
  have e1 : Int.gcd a b = 0 := by omega
  have e2 : Int.gcd c d = 0 := by omega
  rw [Int.gcd_eq_zero_iff] at e1 e2
  exact h ⟨e1.1, e1.2, e2.1, e2.2⟩
 omega
theorem nj (a b c d : Int) : ((Int.gcd ((Int.gcd ((Int.gcd ((Int.gcd 0 a : Nat) : Int) b : Nat) : Int) c : Nat) : Int) d : Nat) : Int) = gT a b c d := by
 unfold gT
 have h1 : Int.gcd ((Int.gcd 0 a : Nat) : Int) b = Int.gcd a b := by
  rw [Int.gcd_zero_left]
  show Nat.gcd (a.natAbs : Int).natAbs b.natAbs = Nat.gcd a.natAbs b.natAbs
  rw [Int.natAbs_natCast]
 rw [h1]
 show ((Nat.gcd (Nat.gcd (Int.gcd a b) c.natAbs) d.natAbs : Nat) : Int) = ((Nat.gcd (Int.gcd a b) (Nat.gcd c.natAbs d.natAbs) : Nat) : Int)
 rw [Nat.gcd_assoc]
theorem wh {a b c d : Int} (h : ¬ (a = 0 ∧ b = 0 ∧ c = 0 ∧ d = 0)) : sT a b c d ≠ 0 := by
 have := vY h
 unfold sT
 split <;> omega
theorem dX {f s : Int} (hf : f ≠ 0) (h : f.tdiv s = f) : s = 1 := by
 have hn : f.natAbs / s.natAbs = f.natAbs := by
  have e : (f.tdiv s).natAbs = f.natAbs / s.natAbs := Int.natAbs_tdiv f s
  rw [← e, h]
 have h0 : s.natAbs ≠ 0 := by
  intro e
  rw [e, Nat.div_zero] at hn
  omega
 have h1 : s.natAbs < 2 := by
  rcases Nat.lt_or_ge s.natAbs 2 with h | h
  ·exact h
  ·have := Nat.div_lt_self (n := f.natAbs) (k := s.natAbs) (by omega) h
   omega
 rcases (show s = 1 ∨ s = -1 by omega) with e | e
 ·exact e
 ·rw [e, Int.tdiv_neg, Int.tdiv_one] at h
  omega
theorem uP {m x s : Int} (hx : -m ≤ x ∧ x ≤ m) : -m ≤ x.tdiv s ∧ x.tdiv s ≤ m := by
 have h : (x.tdiv s).natAbs ≤ x.natAbs := by rw [Int.natAbs_tdiv]; exact Nat.div_le_self _ _
 omega
theorem lp {a b c d : Int} (hz : ¬ (a = 0 ∧ b = 0 ∧ c = 0 ∧ d = 0)) :
  eqT a b c d (a.tdiv (sT a b c d)) (b.tdiv (sT a b c d)) (c.tdiv (sT a b c d)) (d.tdiv (sT a b c d)) = (decide (0 < fT a b c d) && decide (gT a b c d = 1)) := by
 have hf : fT a b c d ≠ 0 := fun e => hz (pY.1 e)
 rw [Bool.eq_iff_iff, Bool.and_eq_true, decide_eq_true_iff, decide_eq_true_iff]
 unfold eqT
 rw [decide_eq_true_iff]
 constructor
 ·rintro ⟨h1, h2, h3, h4⟩
  have hs : sT a b c d = 1 := by
   rcases vx a b c d with e | e | e | e
   ·exact dX (e ▸ hf) h1.symm
   ·exact dX (e ▸ hf) h2.symm
   ·exact dX (e ▸ hf) h3.symm
   ·exact dX (e ▸ hf) h4.symm
  have hg := qC a b c d
  unfold sT at hs
  split at hs <;> omega
 ·rintro ⟨h1, h2⟩
  have hs : sT a b c d = 1 := by unfold sT; rw [if_neg (by omega), h2]
  rw [hs]
  simp [Int.tdiv_one]
theorem bU {a b c d : Int} : az a b c d = true ↔ inT 5 a b c d = true ∧ 0 < fT a b c d ∧ gT a b c d = 1 := by
 simp [az, and_assoc]
theorem rV {a b c d : Int} (h : az a b c d = true) : ¬ (a = 0 ∧ b = 0 ∧ c = 0 ∧ d = 0) := by
 have := (bU.1 h).2.1
 intro e
 rw [pY.2 e] at this
 omega
def ofC (a b c d : Int) : Int :=
 if inT 1000 a b c d && !eT a b c d then
  if az (a.tdiv (sT a b c d)) (b.tdiv (sT a b c d)) (c.tdiv (sT a b c d)) (d.tdiv (sT a b c d)) then 0 else 9
 else 1
def ofP (a b c d x : Int) : Int := if ofC a b c d = 0 then x.tdiv (sT a b c d) else 0
theorem tw {a b c d : Int} (h : (inT 1000 a b c d && !eT a b c d) = false) : ofC a b c d = 1 := by unfold ofC; rw [h]; rfl
theorem jc {a b c d : Int} : eT a b c d = true ↔ (a = 0 ∧ b = 0 ∧ c = 0 ∧ d = 0) := by simp [eT]
theorem sa {a b c d : Int} (h : ofC a b c d = 0) : inT 1000 a b c d = true ∧ ¬ (a = 0 ∧ b = 0 ∧ c = 0 ∧ d = 0) ∧ az (a.tdiv (sT a b c d)) (b.tdiv (sT a b c d)) (c.tdiv (sT a b c d)) (d.tdiv (sT a b c d)) = true := by
 unfold ofC at h
 split at h
 ·next h1 =>
  rw [Bool.and_eq_true, Bool.not_eq_true'] at h1
  split at h
  ·next h2 => exact ⟨h1.1, fun e => by rw [jc.2 e] at h1; exact absurd h1.2 (by decide), h2⟩
  ·exact absurd h (by decide)
 ·exact absurd h (by decide)
def apX (a b c d x y z : Int) : Int := (a * a + b * b - c * c - d * d) * x + 2 * (b * c - a * d) * y + 2 * (b * d + a * c) * z
def apY (a b c d x y z : Int) : Int := 2 * (b * c + a * d) * x + (a * a - b * b + c * c - d * d) * y + 2 * (c * d - a * b) * z
def apZ (a b c d x y z : Int) : Int := 2 * (b * d - a * c) * x + 2 * (c * d + a * b) * y + (a * a - b * b - c * c + d * d) * z
def coA (s1 s2 s3 s4 t1 t2 t3 t4 : Int) : Int := s1 * t1 - s2 * t2 - s3 * t3 - s4 * t4
def coB (s1 s2 s3 s4 t1 t2 t3 t4 : Int) : Int := s1 * t2 + s2 * t1 + s3 * t4 - s4 * t3
def coC (s1 s2 s3 s4 t1 t2 t3 t4 : Int) : Int := s1 * t3 - s2 * t4 + s3 * t1 + s4 * t2
def coD (s1 s2 s3 s4 t1 t2 t3 t4 : Int) : Int := s1 * t4 + s2 * t3 - s3 * t2 + s4 * t1
theorem wj {a b c d x y z : Int} (ht : inT 5 a b c d = true) (hv : aJ 1800 x y z = true) :
  wrap64 (wrap64 (wrap64 (wrap64 (wrap64 (wrap64 (wrap64 (a * a) + wrap64 (b * b)) - wrap64 (c * c)) - wrap64 (d * d)) * x) + wrap64 (wrap64 (2 * wrap64 (wrap64 (b * c) - wrap64 (a * d))) * y)) + wrap64 (wrap64 (2 * wrap64 (wrap64 (b * d) + wrap64 (a * c))) * z)) = apX a b c d x y z := by
 obtain ⟨ha, hb, hc, hd⟩ := bw.1 ht
 have h1 := bq ha ha
 have h2 := bq hb hb
 have h3 := bq hc hc
 have h4 := bq hd hd
 have h5 := bq hb hc
 have h6 := bq ha hd
 have h7 := bq hb hd
 have h8 := bq ha hc
 rw [ap (n := a * a) (by omega) (by omega), ap (n := b * b) (by omega) (by omega), ap (n := c * c) (by omega) (by omega), ap (n := d * d) (by omega) (by omega), ap (n := b * c) (by omega) (by omega), ap (n := a * d) (by omega) (by omega), ap (n := b * d) (by omega) (by omega), ap (n := a * c) (by omega) (by omega),
  ap (n := a * a + b * b) (by omega) (by omega), ap (n := a * a + b * b - c * c) (by omega) (by omega), ap (n := a * a + b * b - c * c - d * d) (by omega) (by omega), ap (n := b * c - a * d) (by omega) (by omega), ap (n := b * d + a * c) (by omega) (by omega), ap (n := 2 * (b * c - a * d)) (by omega) (by omega), ap (n := 2 * (b * d + a * c)) (by omega) (by omega)]
 exact dW (A := 100) (B := 1800) (bu.2 ⟨by omega, by omega, by omega⟩) hv (by omega)
theorem wo {a b c d x y z : Int} (ht : inT 5 a b c d = true) (hv : aJ 1800 x y z = true) :
  wrap64 (wrap64 (wrap64 (wrap64 (2 * wrap64 (wrap64 (b * c) + wrap64 (a * d))) * x) + wrap64 (wrap64 (wrap64 (wrap64 (wrap64 (a * a) - wrap64 (b * b)) + wrap64 (c * c)) - wrap64 (d * d)) * y)) + wrap64 (wrap64 (2 * wrap64 (wrap64 (c * d) - wrap64 (a * b))) * z)) = apY a b c d x y z := by
 obtain ⟨ha, hb, hc, hd⟩ := bw.1 ht
 have h1 := bq ha ha
 have h2 := bq hb hb
 have h3 := bq hc hc
 have h4 := bq hd hd
 have h5 := bq hb hc
 have h6 := bq ha hd
 have h7 := bq hc hd
 have h8 := bq ha hb
 rw [ap (n := a * a) (by omega) (by omega), ap (n := b * b) (by omega) (by omega), ap (n := c * c) (by omega) (by omega), ap (n := d * d) (by omega) (by omega), ap (n := b * c) (by omega) (by omega), ap (n := a * d) (by omega) (by omega), ap (n := c * d) (by omega) (by omega), ap (n := a * b) (by omega) (by omega),
  ap (n := a * a - b * b) (by omega) (by omega), ap (n := a * a - b * b + c * c) (by omega) (by omega), ap (n := a * a - b * b + c * c - d * d) (by omega) (by omega), ap (n := b * c + a * d) (by omega) (by omega), ap (n := c * d - a * b) (by omega) (by omega), ap (n := 2 * (b * c + a * d)) (by omega) (by omega), ap (n := 2 * (c * d - a * b)) (by omega) (by omega)]
 exact dW (A := 100) (B := 1800) (bu.2 ⟨by omega, by omega, by omega⟩) hv (by omega)
theorem wq {a b c d x y z : Int} (ht : inT 5 a b c d = true) (hv : aJ 1800 x y z = true) :
  wrap64 (wrap64 (wrap64 (wrap64 (2 * wrap64 (wrap64 (b * d) - wrap64 (a * c))) * x) + wrap64 (wrap64 (2 * wrap64 (wrap64 (c * d) + wrap64 (a * b))) * y)) + wrap64 (wrap64 (wrap64 (wrap64 (wrap64 (a * a) - wrap64 (b * b)) - wrap64 (c * c)) + wrap64 (d * d)) * z)) = apZ a b c d x y z := by
 obtain ⟨ha, hb, hc, hd⟩ := bw.1 ht
 have h1 := bq ha ha
 have h2 := bq hb hb
 have h3 := bq hc hc
 have h4 := bq hd hd
 have h5 := bq hb hd
 have h6 := bq ha hc
 have h7 := bq hc hd
 have h8 := bq ha hb
 rw [ap (n := a * a) (by omega) (by omega), ap (n := b * b) (by omega) (by omega), ap (n := c * c) (by omega) (by omega), ap (n := d * d) (by omega) (by omega), ap (n := b * d) (by omega) (by omega), ap (n := a * c) (by omega) (by omega), ap (n := c * d) (by omega) (by omega), ap (n := a * b) (by omega) (by omega),
  ap (n := a * a - b * b) (by omega) (by omega), ap (n := a * a - b * b - c * c) (by omega) (by omega), ap (n := a * a - b * b - c * c + d * d) (by omega) (by omega), ap (n := b * d - a * c) (by omega) (by omega), ap (n := c * d + a * b) (by omega) (by omega), ap (n := 2 * (b * d - a * c)) (by omega) (by omega), ap (n := 2 * (c * d + a * b)) (by omega) (by omega)]
 exact dW (A := 100) (B := 1800) (bu.2 ⟨by omega, by omega, by omega⟩) hv (by omega)
theorem wi {s1 s2 s3 s4 t1 t2 t3 t4 : Int} (hs : inT 5 s1 s2 s3 s4 = true) (ht : inT 5 t1 t2 t3 t4 = true) :
  wrap64 (wrap64 (wrap64 (wrap64 (s1 * t1) - wrap64 (s2 * t2)) - wrap64 (s3 * t3)) - wrap64 (s4 * t4)) = coA s1 s2 s3 s4 t1 t2 t3 t4 ∧ -100 ≤ coA s1 s2 s3 s4 t1 t2 t3 t4 ∧ coA s1 s2 s3 s4 t1 t2 t3 t4 ≤ 100 := by
 obtain ⟨ha, hb, hc, hd⟩ := bw.1 hs
 obtain ⟨ka, kb, kc, kd⟩ := bw.1 ht
 have h1 := bq ha ka
 have h2 := bq hb kb
 have h3 := bq hc kc
 have h4 := bq hd kd
 unfold coA
 rw [ap (n := s1 * t1) (by omega) (by omega), ap (n := s2 * t2) (by omega) (by omega), ap (n := s3 * t3) (by omega) (by omega), ap (n := s4 * t4) (by omega) (by omega), ap (n := s1 * t1 - s2 * t2) (by omega) (by omega), ap (n := s1 * t1 - s2 * t2 - s3 * t3) (by omega) (by omega), ap (by omega) (by omega)]
 omega
theorem wu {s1 s2 s3 s4 t1 t2 t3 t4 : Int} (hs : inT 5 s1 s2 s3 s4 = true) (ht : inT 5 t1 t2 t3 t4 = true) :
  wrap64 (wrap64 (wrap64 (wrap64 (s1 * t2) + wrap64 (s2 * t1)) + wrap64 (s3 * t4)) - wrap64 (s4 * t3)) = coB s1 s2 s3 s4 t1 t2 t3 t4 ∧ -100 ≤ coB s1 s2 s3 s4 t1 t2 t3 t4 ∧ coB s1 s2 s3 s4 t1 t2 t3 t4 ≤ 100 := by
 obtain ⟨ha, hb, hc, hd⟩ := bw.1 hs
 obtain ⟨ka, kb, kc, kd⟩ := bw.1 ht
 have h1 := bq ha kb
 have h2 := bq hb ka
 have h3 := bq hc kd
 have h4 := bq hd kc
 unfold coB
 rw [ap (n := s1 * t2) (by omega) (by omega), ap (n := s2 * t1) (by omega) (by omega), ap (n := s3 * t4) (by omega) (by omega), ap (n := s4 * t3) (by omega) (by omega), ap (n := s1 * t2 + s2 * t1) (by omega) (by omega), ap (n := s1 * t2 + s2 * t1 + s3 * t4) (by omega) (by omega), ap (by omega) (by omega)]
 omega
theorem wl {s1 s2 s3 s4 t1 t2 t3 t4 : Int} (hs : inT 5 s1 s2 s3 s4 = true) (ht : inT 5 t1 t2 t3 t4 = true) :
  wrap64 (wrap64 (wrap64 (wrap64 (s1 * t3) - wrap64 (s2 * t4)) + wrap64 (s3 * t1)) + wrap64 (s4 * t2)) = coC s1 s2 s3 s4 t1 t2 t3 t4 ∧ -100 ≤ coC s1 s2 s3 s4 t1 t2 t3 t4 ∧ coC s1 s2 s3 s4 t1 t2 t3 t4 ≤ 100 := by
 obtain ⟨ha, hb, hc, hd⟩ := bw.1 hs
 obtain ⟨ka, kb, kc, kd⟩ := bw.1 ht
 have h1 := bq ha kc
 have h2 := bq hb kd
 have h3 := bq hc ka
 have h4 := bq hd kb
 unfold coC
 rw [ap (n := s1 * t3) (by omega) (by omega), ap (n := s2 * t4) (by omega) (by omega), ap (n := s3 * t1) (by omega) (by omega), ap (n := s4 * t2) (by omega) (by omega), ap (n := s1 * t3 - s2 * t4) (by omega) (by omega), ap (n := s1 * t3 - s2 * t4 + s3 * t1) (by omega) (by omega), ap (by omega) (by omega)]
 omega
theorem ww {s1 s2 s3 s4 t1 t2 t3 t4 : Int} (hs : inT 5 s1 s2 s3 s4 = true) (ht : inT 5 t1 t2 t3 t4 = true) :
  wrap64 (wrap64 (wrap64 (wrap64 (s1 * t4) + wrap64 (s2 * t3)) - wrap64 (s3 * t2)) + wrap64 (s4 * t1)) = coD s1 s2 s3 s4 t1 t2 t3 t4 ∧ -100 ≤ coD s1 s2 s3 s4 t1 t2 t3 t4 ∧ coD s1 s2 s3 s4 t1 t2 t3 t4 ≤ 100 := by
 obtain ⟨ha, hb, hc, hd⟩ := bw.1 hs
 obtain ⟨ka, kb, kc, kd⟩ := bw.1 ht
 have h1 := bq ha kd
 have h2 := bq hb kc
 have h3 := bq hc kb
 have h4 := bq hd ka
 unfold coD
 rw [ap (n := s1 * t4) (by omega) (by omega), ap (n := s2 * t3) (by omega) (by omega), ap (n := s3 * t2) (by omega) (by omega), ap (n := s4 * t1) (by omega) (by omega), ap (n := s1 * t4 + s2 * t3) (by omega) (by omega), ap (n := s1 * t4 + s2 * t3 - s3 * t2) (by omega) (by omega), ap (by omega) (by omega)]
 omega
def apR (a b c d x y z : Int) : Bool := az a b c d && cc x y z
def apI (r : Bool) (v : Int) : Int := if r then v else 0
def coR (s1 s2 s3 s4 t1 t2 t3 t4 : Int) : Bool := az s1 s2 s3 s4 && az t1 t2 t3 t4
def coK (s1 s2 s3 s4 t1 t2 t3 t4 : Int) : Int :=
 if coR s1 s2 s3 s4 t1 t2 t3 t4 then ofC (coA s1 s2 s3 s4 t1 t2 t3 t4) (coB s1 s2 s3 s4 t1 t2 t3 t4) (coC s1 s2 s3 s4 t1 t2 t3 t4) (coD s1 s2 s3 s4 t1 t2 t3 t4) else 1
def coP (s1 s2 s3 s4 t1 t2 t3 t4 v : Int) : Int :=
 if coR s1 s2 s3 s4 t1 t2 t3 t4 then ofP (coA s1 s2 s3 s4 t1 t2 t3 t4) (coB s1 s2 s3 s4 t1 t2 t3 t4) (coC s1 s2 s3 s4 t1 t2 t3 t4) (coD s1 s2 s3 s4 t1 t2 t3 t4) v else 0
def aC (w : World) (b : Nat) (p q r s : Int) : Prop := w.cell? ⟨b, 0, none⟩ = some (.int .i64 p) ∧ w.cell? ⟨b, 1, none⟩ = some (.int .i64 q) ∧ w.cell? ⟨b, 2, none⟩ = some (.int .i64 r) ∧ w.cell? ⟨b, 3, none⟩ = some (.int .i64 s)
def ca (w : World) (b : Nat) : Prop := w.frozen? ⟨b, 0, none⟩ = false ∧ w.frozen? ⟨b, 1, none⟩ = false ∧ w.frozen? ⟨b, 2, none⟩ = false ∧ w.frozen? ⟨b, 3, none⟩ = false
theorem aC.kept {w w' : World} {b : Nat} {p q r s : Int} (h : aC w b p q r s) (hb : b < w.heap.size) (hB : Below w.heap.size w w') : aC w' b p q r s := by
 obtain ⟨h0, h1, h2, h3⟩ := h
 exact ⟨by rw [hB.cell (p := ⟨b, 0, none⟩) hb]; exact h0, by rw [hB.cell (p := ⟨b, 1, none⟩) hb]; exact h1, by rw [hB.cell (p := ⟨b, 2, none⟩) hb]; exact h2, by rw [hB.cell (p := ⟨b, 3, none⟩) hb]; exact h3⟩
theorem ca.kept {w w' : World} {b : Nat} (h : ca w b) (hb : b < w.heap.size) (hB : Below w.heap.size w w') : ca w' b := by
 obtain ⟨h0, h1, h2, h3⟩ := h
 exact ⟨by rw [hB.frozen (p := ⟨b, 0, none⟩) hb]; exact h0, by rw [hB.frozen (p := ⟨b, 1, none⟩) hb]; exact h1, by rw [hB.frozen (p := ⟨b, 2, none⟩) hb]; exact h2, by rw [hB.frozen (p := ⟨b, 3, none⟩) hb]; exact h3⟩
theorem aM (w : World) (p q r s : Int) (t : TypeId) : aC (w.alloc (.cells #[.int .i64 p, .int .i64 q, .int .i64 r, .int .i64 s] t)) w.heap.size p q r s := by
 refine ⟨?_, ?_, ?_, ?_⟩ <;> simp
theorem iV (w : World) (p q r s : Int) (t : TypeId) : ca (w.alloc (.cells #[.int .i64 p, .int .i64 q, .int .i64 r, .int .i64 s] t)) w.heap.size := by
 refine ⟨?_, ?_, ?_, ?_⟩ <;> simp
theorem aC.lt {w : World} {b : Nat} {p q r s : Int} (h : aC w b p q r s) : b < w.heap.size := World.block_lt_of_cell? w _ h.1
theorem aC.alloc {w : World} {b : Nat} {p q r s : Int} (h : aC w b p q r s) (o : Obj) : aC (w.alloc o) b p q r s := h.kept h.lt (an _ _)
theorem bQ {w w1 : World} {b : Nat} (h : Below w.heap.size w w1) (hb : w.heap.size ≤ b) (x y z u : Value) : Below w.heap.size w ((((w1.setCell ⟨b, 0, none⟩ x).setCell ⟨b, 1, none⟩ y).setCell ⟨b, 2, none⟩ z).setCell ⟨b, 3, none⟩ u) := (((h.setCell hb _).setCell hb _).setCell hb _).setCell hb _
theorem bD {w w1 : World} {b : Nat} (h : Below w.heap.size w w1) (hb : w.heap.size ≤ b) (x y z u v : Value) : Below w.heap.size w (((((w1.setCell ⟨b, 0, none⟩ x).setCell ⟨b, 1, none⟩ y).setCell ⟨b, 2, none⟩ z).setCell ⟨b, 3, none⟩ u).setCell ⟨b, 4, none⟩ v) := ((((h.setCell hb _).setCell hb _).setCell hb _).setCell hb _).setCell hb _
theorem gB (p q r s : Int) (w : World) :
  Calls Tryz.prog 155 #[.agg #[.int .i64 p, .int .i64 q, .int .i64 r, .int .i64 s]] w fun e w' => e = .returned (.agg #[.int .i64 p, .int .i64 q, .int .i64 r, .int .i64 s]) ∧ Below w.heap.size w w' := by
 go_enter Tryz.func155, Tryz.ntmps155
 go_wp2
 exact bodyPost_ret (v := .agg #[.int .i64 p, .int .i64 q, .int .i64 r, .int .i64 s]) (by simp [results, Tryz.results155, go_sem]) rfl ⟨rfl, aH _ _ _⟩
theorem kO (a1 a2 a3 a4 b1 b2 b3 b4 : Int) (w : World) : (Op.equalIn 10000 43 (.agg #[.int .i64 a1, .int .i64 a2, .int .i64 a3, .int .i64 a4]) (.agg #[.int .i64 b1, .int .i64 b2, .int .i64 b3, .int .i64 b4])).run Tryz.prog w = .ok (eqT a1 a2 a3 a4 b1 b2 b3 b4) w := by
 have h := run_equalIn_struct (P := Tryz.prog) w 9999 43 #[.int .i64 a1, .int .i64 a2, .int .i64 a3, .int .i64 a4] #[.int .i64 b1, .int .i64 b2, .int .i64 b3, .int .i64 b4] (by kernel_rfl) (by kernel_rfl)
 refine h.trans ?_
 by_cases h1 : a1 = b1
 ·by_cases h2 : a2 = b2
  ·by_cases h3 : a3 = b3
   ·by_cases h4 : a4 = b4
    ·simp [go_sem, eqT, h1, h2, h3, h4]
    ·simp [go_sem, eqT, h1, h2, h3, h4]
   ·simp [go_sem, eqT, h1, h2, h3]
  ·simp [go_sem, eqT, h1, h2]
 ·simp [go_sem, eqT, h1]
theorem sN (a1 a2 a3 a4 b1 b2 b3 b4 : Int) (w : World) : (binOp .neq 43 (.agg #[.int .i64 a1, .int .i64 a2, .int .i64 a3, .int .i64 a4]) (.agg #[.int .i64 b1, .int .i64 b2, .int .i64 b3, .int .i64 b4])).run Tryz.prog w = .ok (.bool (!eqT a1 a2 a3 a4 b1 b2 b3 b4)) w := by
 rw [run_neq_struct, kO]; rfl
theorem kf (a1 a2 a3 a4 b1 b2 b3 b4 : Int) (w : World) : (binOp .eql 43 (.agg #[.int .i64 a1, .int .i64 a2, .int .i64 a3, .int .i64 a4]) (.agg #[.int .i64 b1, .int .i64 b2, .int .i64 b3, .int .i64 b4])).run Tryz.prog w = .ok (.bool (eqT a1 a2 a3 a4 b1 b2 b3 b4)) w := by
 rw [run_eql_struct, kO]; rfl
theorem fU (m p q r s : Int) (w : World) (hm0 : 0 ≤ m) (hm : m ≤ 1000000) :
  Calls Tryz.prog 125 #[.agg #[.int .i64 p, .int .i64 q, .int .i64 r, .int .i64 s], .int .i64 m] w fun e w' => e = .returned (.bool (inT m p q r s)) ∧ Below w.heap.size w w' := by
 have i0 : ∀ w : World, (Instr.index 196 (.agg #[.int .i64 p, .int .i64 q, .int .i64 r, .int .i64 s]) (.int .i64 0)).run Tryz.prog w = .ok (.int .i64 p) w := fun _ => by kernel_rfl
 have i1 : ∀ w : World, (Instr.index 196 (.agg #[.int .i64 p, .int .i64 q, .int .i64 r, .int .i64 s]) (.int .i64 1)).run Tryz.prog w = .ok (.int .i64 q) w := fun _ => by kernel_rfl
 have i2 : ∀ w : World, (Instr.index 196 (.agg #[.int .i64 p, .int .i64 q, .int .i64 r, .int .i64 s]) (.int .i64 2)).run Tryz.prog w = .ok (.int .i64 r) w := fun _ => by kernel_rfl
 have i3 : ∀ w : World, (Instr.index 196 (.agg #[.int .i64 p, .int .i64 q, .int .i64 r, .int .i64 s]) (.int .i64 3)).run Tryz.prog w = .ok (.int .i64 s) w := fun _ => by kernel_rfl
 have hwr : wrap64 (-m) = -m := ap (by omega) (by omega)
 go_enter Tryz.func125, Tryz.ntmps125
 go_wp2_with fail
 refine (gB p q r s _).mono ?_
 rintro e w1 ⟨rfl, hB1⟩
 have hB : Below w.heap.size w w1 := ak (an _ _) hB1
 clear hB1
 go_wp2_with fail
 go_loop [9] (fun i => ∃ k : Nat, k ≤ 4 ∧ i = .int .i64 k ∧ Hid (0 < k → inB m p = true) ∧ Hid (1 < k → inB m q = true) ∧ Hid (2 < k → inB m r = true) ∧ Hid (3 < k → inB m s = true)) (fun i => 4 - (intOf i).toNat)
 case atStart => exact ⟨0, Nat.zero_le _, rfl, yz (by omega), yz (by omega), yz (by omega), yz (by omega)⟩
 case round =>
  obtain ⟨k, hk, rfl, hx, hy, hz, hu⟩ := hrel
  have hk5 : k = 0 ∨ k = 1 ∨ k = 2 ∨ k = 3 ∨ k = 4 := by omega
  rcases hk5 with rfl | rfl | rfl | rfl | rfl
  ·by_cases q1 : -m ≤ p
   ·by_cases q2 : p ≤ m
    ·have HI := yz (dY.2 ⟨q1, q2⟩)
     go_wp2
     go_round
     case rel => exact ⟨1, by omega, rfl, yz (fun _ => yy HI), yz (by omega), yz (by omega), yz (by omega)⟩
     case measure => simp [intOf]
    ·have HO := yz (ia (m := m) (x := p) (fun h => q2 h.2))
     go_wp2
     go_ret
     exact ⟨by simp [inT, yy HO], hB⟩
   ·have HO := yz (ia (m := m) (x := p) (fun h => q1 h.1))
    go_wp2
    go_ret
    exact ⟨by simp [inT, yy HO], hB⟩
  ·by_cases q1 : -m ≤ q
   ·by_cases q2 : q ≤ m
    ·have HI := yz (dY.2 ⟨q1, q2⟩)
     go_wp2
     go_round
     case rel => exact ⟨2, by omega, rfl, yz (fun _ => yy hx (by omega)), yz (fun _ => yy HI), yz (by omega), yz (by omega)⟩
     case measure => simp [intOf]
    ·have HO := yz (ia (m := m) (x := q) (fun h => q2 h.2))
     go_wp2
     go_ret
     exact ⟨by simp [inT, yy HO], hB⟩
   ·have HO := yz (ia (m := m) (x := q) (fun h => q1 h.1))
    go_wp2
    go_ret
    exact ⟨by simp [inT, yy HO], hB⟩
  ·by_cases q1 : -m ≤ r
   ·by_cases q2 : r ≤ m
    ·have HI := yz (dY.2 ⟨q1, q2⟩)
     go_wp2
     go_round
     case rel => exact ⟨3, by omega, rfl, yz (fun _ => yy hx (by omega)), yz (fun _ => yy hy (by omega)), yz (fun _ => yy HI), yz (by omega)⟩
     case measure => simp [intOf]
    ·have HO := yz (ia (m := m) (x := r) (fun h => q2 h.2))
     go_wp2
     go_ret
     exact ⟨by simp [inT, yy HO], hB⟩
   ·have HO := yz (ia (m := m) (x := r) (fun h => q1 h.1))
    go_wp2
    go_ret
    exact ⟨by simp [inT, yy HO], hB⟩
  ·by_cases q1 : -m ≤ s
   ·by_cases q2 : s ≤ m
    ·have HI := yz (dY.2 ⟨q1, q2⟩)
     go_wp2
     go_round
     case rel => exact ⟨4, by omega, rfl, yz (fun _ => yy hx (by omega)), yz (fun _ => yy hy (by omega)), yz (fun _ => yy hz (by omega)), yz (fun _ => yy HI)⟩
     case measure => simp [intOf]
    ·have HO := yz (ia (m := m) (x := s) (fun h => q2 h.2))
     go_wp2
     go_ret
     exact ⟨by simp [inT, yy HO], hB⟩
   ·have HO := yz (ia (m := m) (x := s) (fun h => q1 h.1))
    go_wp2
    go_ret
    exact ⟨by simp [inT, yy HO], hB⟩
  ·go_wp2
   go_ret
   exact ⟨by simp [inT, yy hx (by omega), yy hy (by omega), yy hz (by omega), yy hu (by omega)], hB⟩
end
section
open Go.RowKit Go.Sort
def kA (L : List St) (id : Int) (k : Nat) : Prop := ∀ j, j < k → (stA L j).1 ≠ id
def atV (L : List St) (n : Nat) (id : Int) : Int × Int × Int := match (List.range n).find? (fun j => decide ((stA L j).1 = id)) with | none => (0, 0, 0) | some j => (stA L j).2
theorem qz {L : List St} {n : Nat} {id : Int} (h : kA L id n) : atV L n id = (0, 0, 0) := by
 unfold atV
 have : (List.range n).find? (fun j => decide ((stA L j).1 = id)) = none := by
  rw [List.find?_eq_none]
  intro j hj
  simp [h j (List.mem_range.1 hj)]
 rw [this]
theorem sr {L : List St} {n k : Nat} {id : Int} (hk : k < n) (h : kA L id k) (h1 : (stA L k).1 = id) : atV L n id = (stA L k).2 := by
 unfold atV
 have : (List.range n).find? (fun j => decide ((stA L j).1 = id)) = some k := by
  rw [List.find?_range_eq_some]
  exact ⟨by simp [h1], List.mem_range.2 hk, fun j hj => by simp [h j hj]⟩
 rw [this]
theorem qT {L : List St} {k : Nat} {id : Int} (h : kA L id k) (h1 : (stA L k).1 ≠ id) : kA L id (k + 1) := by
 intro j hj
 by_cases e : j = k
 ·rw [e]; exact h1
 ·exact h j (by omega)
def lh (L : List St) (id : Int) : Int × Int × Int := if be L = true then atV L L.length id else (0, 0, 0)
def vP (v : Int × Int × Int) : Value := .agg #[.int .i64 v.1, .int .i64 v.2.1, .int .i64 v.2.2]
theorem kv (L : List St) (id : Int) (a : Option Addr) (c : Nat) (p : Addr) (w : World) (hn : L.length ≤ 1048576) (hcap : L.length ≤ c) (hc9 : c ≤ 9223372036854775807) (hS : aL w a L L.length) (hE : aW p w) :
  Calls Tryz.prog 146 #[.slice a L.length c, .int .i64 id] w fun e w' => e = .returned (vP (lh L id)) ∧ Below w.heap.size w w' := by
 have cS := yz (fun (W : World) hW hE => bY L a c p W hn hcap hc9 hW hE)
 have HS := yz hS
 have HE := yz hE
 clear hS hE
 have HV := yz (show lh L id = if be L = true then atV L L.length id else (0, 0, 0) from rfl)
 generalize L.length = n at *
 have V0 := yz (aD w 0 0 0 72)
 have F0 := yz (fu w 0 0 0 72)
 have B0 := yz (an w (.cells #[.int .i64 0, .int .i64 0, .int .i64 0] 72))
 go_enter Tryz.func146, Tryz.ntmps146
 go_wp2_with fail
 refine (yy cS _ ((yy HS).kept (yy B0)) ((yy HE).kept (yy B0))).mono ?_
 rintro e w1 ⟨rfl, hx⟩
 have HB := yz (ak (yy B0) hx)
 have V1 := yz ((yy V0).kept (by simp) hx)
 have F1 := yz ((yy F0).kept (by simp) hx)
 clear hx V0 F0 B0
 cases hk : be L
 ·rw [hk] at HV
  obtain ⟨v0, v1, v2⟩ := yy V1
  obtain ⟨f0, f1, f2⟩ := yy F1
  clear hk
  go_wp2_with fail
  exact bodyPost_ret (v := .agg #[.int .i64 0, .int .i64 0, .int .i64 0]) (by simp [results, Tryz.results146, go_sem, v0, v1, v2]) rfl ⟨by rw [yy HV]; rfl, bl (yy HB) (Nat.le_refl _) _ _ _⟩
 rw [hk] at HV
 have HV' : Hid (lh L id = atV L n id) := yz (by rw [yy HV]; rfl)
 clear hk HV
 rcases yy HS with rfl | ⟨b, o, rfl, hb, hc⟩
 ·have HO : Hid (atV L 0 id = (0, 0, 0)) := yz (qz (fun j hj => absurd hj (Nat.not_lt_zero _)))
  obtain ⟨v0, v1, v2⟩ := yy V1
  obtain ⟨f0, f1, f2⟩ := yy F1
  go_wp2_with fail
  refine wp_loop_rounds 1 ?_
  rw [rounds_succ]
  go_wp2_with fail
  exact bodyPost_ret (v := .agg #[.int .i64 0, .int .i64 0, .int .i64 0]) (by simp [results, Tryz.results146, go_sem, v0, v1, v2]) rfl ⟨by rw [yy HV', yy HO]; rfl, bl (yy HB) (Nat.le_refl _) _ _ _⟩
 have HC := yz hc
 clear hc
 go_wp2_with fail
 go_loopw [13] (fun i wr => ∃ k : Nat, k ≤ n ∧ i = .int .i64 k ∧ Hid (kA L id k) ∧ Hid (Below w.heap.size w wr) ∧ Hid (aF wr w.heap.size 0 0 0) ∧ Hid (dR wr w.heap.size)) (fun i _ => n - (intOf i).toNat)
 case atStart => exact ⟨0, by omega, rfl, yz (fun j hj => absurd hj (Nat.not_lt_zero _)), HB, V1, F1⟩
 case round =>
  clear HB V1 F1
  obtain ⟨k, hk, rfl, HF, HB, V1, F1⟩ := hrel
  by_cases hkn : k < n
  ·obtain ⟨⟨s1, s2, s3, s4⟩, hs⟩ : ∃ s, stA L k = s := ⟨_, rfl⟩
   have hst := ((yy HC) k hkn).kept hb (yy HB)
   rw [hs] at hst
   obtain ⟨c0, c1, c2, c3⟩ := hst
   have HT := yz hs
   clear hs
   have B2 := yz ((yy HB).alloc (yy HB).size (.cells #[.int .i64 s1, .int .i64 s2, .int .i64 s3, .int .i64 s4] 74))
   have V2 := yz ((yy V1).kept (vlt (yy V1)) (an wr (.cells #[.int .i64 s1, .int .i64 s2, .int .i64 s3, .int .i64 s4] 74)))
   have F2 := yz ((yy F1).kept (vlt (yy V1)) (an wr (.cells #[.int .i64 s1, .int .i64 s2, .int .i64 s3, .int .i64 s4] 74)))
   obtain ⟨v0, v1, v2⟩ := yy V2
   obtain ⟨f0, f1, f2⟩ := yy F2
   by_cases hq : s1 = id
   ·have HO : Hid (atV L n id = (s2, s3, s4)) := yz (by rw [sr hkn (yy HF) (by rw [yy HT]; exact hq), yy HT])
    have hq' : (s1 == id) = true := by simp [hq]
    clear hq
    go_wp2_with fail
    exact bodyPost_ret (v := .agg #[.int .i64 s2, .int .i64 s3, .int .i64 s4]) (by simp [results, Tryz.results146, go_sem, v0, v1, v2]) rfl ⟨by rw [yy HV', yy HO]; rfl, bl (yy B2) (Nat.le_refl _) _ _ _⟩
   ·have HF2 := yz (qT (yy HF) (by rw [yy HT]; exact hq))
    have hq' : (s1 == id) = false := by simp [hq]
    clear hq
    go_wp2_with fail
    go_roundw
    case rel => exact ⟨k + 1, by omega, by go_num, HF2, B2, V2, F2⟩
    case measure => simp [intOf]; omega
  ·have hkn' : k = n := by omega
   subst hkn'
   have HO := yz (qz (yy HF))
   obtain ⟨v0, v1, v2⟩ := yy V1
   obtain ⟨f0, f1, f2⟩ := yy F1
   go_wp2_with fail
   exact bodyPost_ret (v := .agg #[.int .i64 0, .int .i64 0, .int .i64 0]) (by simp [results, Tryz.results146, go_sem, v0, v1, v2]) rfl ⟨by rw [yy HV', yy HO]; rfl, bl (yy HB) (Nat.le_refl _) _ _ _⟩
end
section
open Go.RowKit
theorem oA {x y z : Int} (h : ba x y z = true) : cc x y z = true := by
 obtain ⟨h1, h2⟩ := lZ h
 unfold cc
 rw [h1, Bool.true_and, bu]
 rw [bu] at h2
 omega
def apD (a b c d : Int) (v : D3) : D3 := (apX a b c d v.1 v.2.1 v.2.2, apY a b c d v.1 v.2.1 v.2.2, apZ a b c d v.1 v.2.1 v.2.2)
def eV (L : List St) (a b c d : Int) (v : D3) : Nat → Int
 | 0 => 0
 | k + 1 => if eG v (apD a b c d (stA L k).2) = true then (stA L k).1 else eV L a b c d v k
def fZ (L : List St) (a b c d : Int) (S : List D3) : Bool := be L && az a b c d && aQ S
def bn (L : List St) (a b c d : Int) (S : List D3) : List Int := if fZ L a b c d S = true then S.map (fun v => eV L a b c d v L.length) else []
theorem se {L : List St} {a b c d : Int} {S : List D3} (h : be L = false) : bn L a b c d S = [] := by unfold bn fZ; rw [h]; rfl
theorem rH {L : List St} {a b c d : Int} {S : List D3} (h : az a b c d = false) : bn L a b c d S = [] := by unfold bn fZ; rw [h, Bool.and_false]; rfl
theorem rO {L : List St} {a b c d : Int} {S : List D3} (h : aQ S = false) : bn L a b c d S = [] := by unfold bn fZ; rw [h, Bool.and_false]; rfl
theorem rA {L : List St} {a b c d : Int} {S : List D3} (h1 : be L = true) (h2 : az a b c d = true) (h3 : aQ S = true) : bn L a b c d S = S.map (fun v => eV L a b c d v L.length) := by unfold bn fZ; rw [h1, h2, h3]; rfl
theorem rk (L : List St) (a b c d : Int) (S : List D3) : (bn L a b c d S).length ≤ 6 := by
 unfold bn
 split
 ·rename_i h
  unfold fZ at h
  rw [Bool.and_eq_true] at h
  rw [List.length_map]
  exact (em h.2).1
 ·simp
end
section
def pcs (c : UInt8) : List UInt8 → List (List UInt8)
 | [] => [[]]
 | x :: xs => if x = c then [] :: pcs c xs else (x :: (pcs c xs).headD []) :: (pcs c xs).tail
theorem lc (c : UInt8) (s : List UInt8) : pcs c s ≠ [] := by
 cases s with
 | nil => simp [pcs]
 | cons x xs => unfold pcs; split <;> simp
theorem kJ {c : UInt8} : ∀ {s : List UInt8}, c ∉ s → pcs c s = [s]
 | [], _ => rfl
 | x :: xs, h => by
  have hx : ¬ x = c := fun e => h (e ▸ List.mem_cons_self ..)
  have ih := kJ (c := c) (s := xs) (fun h' => h (List.mem_cons_of_mem _ h'))
  unfold pcs
  rw [if_neg hx, ih]
  rfl
theorem ig {c : UInt8} : ∀ {a b : List UInt8}, c ∉ a → pcs c (a ++ c :: b) = a :: pcs c b
 | [], b, _ => by show pcs c (c :: b) = _; rw [pcs, if_pos rfl]
 | x :: xs, b, h => by
  have hx : ¬ x = c := fun e => h (e ▸ List.mem_cons_self ..)
  have ih := ig (c := c) (a := xs) (b := b) (fun h' => h (List.mem_cons_of_mem _ h'))
  show pcs c (x :: (xs ++ c :: b)) = _
  rw [pcs, if_neg hx, ih]
  rfl
theorem kQ {c : UInt8} : ∀ {s : List UInt8}, c ∈ s → ∃ a b, s = a ++ c :: b ∧ c ∉ a
 | [], h => by cases h
 | x :: xs, h => by
  by_cases hx : x = c
  ·exact ⟨[], xs, by rw [hx]; rfl, by simp⟩
  ·have : c ∈ xs := by rcases List.mem_cons.1 h with e | e; exact absurd e.symm hx; exact e
   obtain ⟨a, b, e, hn⟩ := kQ this
   exact ⟨x :: a, b, by rw [e]; rfl, fun h' => by rcases List.mem_cons.1 h' with e' | e'; exact hx e'.symm; exact hn e'⟩
theorem oz {c : UInt8} {s : List UInt8} (h : c ∉ s) : Lib.index s [c] = -1 := by
 rw [Lib.index_one]
 have := Lib.indexByte_ge s c
 rcases Int.lt_or_le (Lib.indexByte s c) 0 with h1 | h1
 ·omega
 ·obtain ⟨o, ho⟩ := Int.eq_ofNat_of_zero_le h1
  exact absurd (List.mem_of_getElem? (Lib.indexByte_some ho).1) h
theorem mn {c : UInt8} {a b : List UInt8} (h : c ∉ a) : Lib.index (a ++ c :: b) [c] = (a.length : Int) := by
 rw [Lib.index_one]
 have := Lib.indexByte_ge (a ++ c :: b) c
 rcases Int.lt_or_le (Lib.indexByte (a ++ c :: b) c) 0 with h1 | h1
 ·exact absurd (by rw [List.getElem?_append_right (Nat.le_refl _)]; simp) (Lib.indexByte_none (l := a ++ c :: b) (c := c) (by omega) a.length)
 ·obtain ⟨o, ho⟩ := Int.eq_ofNat_of_zero_le h1
  obtain ⟨g1, g2⟩ := Lib.indexByte_some ho
  rw [ho]
  rcases Nat.lt_trichotomy o a.length with h2 | h2 | h2
  ·rw [List.getElem?_append_left h2] at g1
   exact absurd (List.mem_of_getElem? g1) h
  ·rw [h2]
  ·exact absurd (by rw [List.getElem?_append_right (Nat.le_refl _)]; simp) (g2 a.length h2)
theorem tM {c : UInt8} {s : List UInt8} (h : c ∉ s) : Lib.cut s [c] = (s, [], false) := by unfold Lib.cut; rw [oz h]; rfl
theorem uq {c : UInt8} {a b : List UInt8} (h : c ∉ a) : Lib.cut (a ++ c :: b) [c] = (a, b, true) := by
 unfold Lib.cut
 rw [mn h, if_pos (by omega)]
 simp
theorem lA (c : UInt8) : ∀ (n : Nat) (s : List UInt8), s.length ≤ n → Lib.splitK [c] 0 (Lib.count s [c]) s = pcs c s
 | n, s, hn => by
  by_cases h : c ∈ s
  ·obtain ⟨a, b, rfl, ha⟩ := kQ h
   match n, hn with
   | 0, hn => simp at hn
   | n + 1, hn =>
    have ih := lA c n b (by simp at hn; omega)
    have hc : Lib.count (a ++ c :: b) [c] = 1 + Lib.count b [c] := by
     have := Lib.count_hit (s := a ++ c :: b) (sub := [c]) (i := a.length) (by simp) (mn ha)
     rw [this]
     simp
    rw [hc, Nat.add_comm, Lib.splitK, mn ha, if_neg (by simp), ig ha]
    simp only [Int.toNat_natCast, Nat.add_zero]
    rw [List.take_left, show ([c] : List UInt8).length = 1 from rfl, ← ih]
    congr 2
    simp
  ·rw [Lib.count_miss (oz h), kJ h]
   rfl
def nZ (x : UInt8) : Bool := decide (48 ≤ x.toNat ∧ x.toNat ≤ 57)
def jA : List UInt8 → Int := fun l => l.foldl (fun n x => 10 * n + ((x.toNat : Int) - 48)) 0
def fN (l : List UInt8) : Bool := decide (1 ≤ l.length ∧ l.length ≤ 9) && !(decide (1 < l.length) && decide (l.head? = some 48)) && l.all nZ
def mQ : List UInt8 := [98, 108, 105, 110, 100]
def mM : List UInt8 := [100, 114, 105, 102, 116]
def uk : List UInt8 := [105, 100, 115]
def qd : List UInt8 := [109, 111, 118, 101]
def mW : List UInt8 := [114, 101, 115, 101, 116]
def ur : List UInt8 := [115, 101, 101]
def mj : List UInt8 := [115, 116, 97, 116, 101]
structure Ln where
 k : Nat
 t : List UInt8
 n : Int
def eU (k : Nat) : List (List UInt8) → Option Ln
 | [x] => if x = [] then none else some ⟨k, x, 0⟩
 | _ => none
def fy (k : Nat) : List (List UInt8) → Option Ln
 | [x] => if fN x = true then some ⟨k, [], jA x⟩ else none
 | _ => none
def eA (k : Nat) : List (List UInt8) → Option Ln
 | [] => some ⟨k, [], 0⟩
 | _ => none
def eL (raw : List UInt8) : Option Ln :=
 match pcs 32 raw with
 | [] => none
 | w :: r => if w = mQ then eA 0 r else if w = mM then eU 1 r else if w = uk then fy 2 r else if w = qd then eU 3 r else if w = mW then eA 4 r else if w = ur then fy 5 r else if w = mj then eA 6 r else none
def eO : Nat → List (List UInt8) → List Ln ⊕ Nat
 | i, [] => .inl []
 | i, [p] => if p = [] then .inl [] else .inr i
 | i, p :: q :: r => match eL p with
  | none => .inr i
  | some l => if 40 ≤ i then .inr i else match eO (i + 1) (q :: r) with
   | .inl ls => .inl (l :: ls)
   | .inr j => .inr j
end
end Go.Proofs.YtdchjcadhlkpfaaGreatDoor
