/- Several texts in one: SkyC, SkyD, SkyE, SkyF, SkyG, SkyI, RowF, MarkS, PairA, Place, PairB, PairC. -/
import Derived.Lib.QuietBelow
import Derived.BigQuiet
import Derived.OwnWalk
import Derived.Laws.OwnMore
import Derived.Deep.RegionHeld
import Derived.Deep.DeepCutAuto
import Derived.Test.YtgiodlllokdcdaaGreatDoorQFnFollowOwn2
namespace Go.Proofs.YtgiodlllokdcdaaGreatDoor
set_option linter.unusedVariables false
set_option linter.unusedSimpArgs false
set_option maxRecDepth 100000
set_option maxHeartbeats 8000000
section
open Go.RowKit Go.Sort
def uA : ByteArray := ⟨#[97, 110, 32, 73, 100, 32, 105, 115, 32, 110, 111, 116, 32, 49, 32, 116, 111, 32, 57, 57, 57, 57]⟩
def vD : ByteArray := ⟨#[116, 104, 101, 32, 73, 100, 115, 32, 97, 114, 101, 32, 110, 111, 116, 32, 114, 105, 115, 105, 110, 103]⟩
def ql : ByteArray := ⟨#[97, 32, 115, 116, 97, 114, 32, 105, 115, 32, 97, 116, 32, 110, 111, 32, 115, 109, 97, 108, 108, 32, 100, 105, 114, 101, 99, 116, 105, 111, 110, 32, 116, 104, 97, 116, 32, 105, 115, 32, 105, 116, 115, 32, 111, 119, 110, 32, 112, 114, 105, 109, 101]⟩
def ro : ByteArray := ⟨#[116, 119, 111, 32, 115, 116, 97, 114, 115, 32, 97, 114, 101, 32, 116, 104, 101, 32, 115, 97, 109, 101, 32, 119, 97, 121]⟩
def rY : ByteArray := ⟨#[116, 104, 101, 114, 101, 32, 97, 114, 101, 32, 116, 111, 111, 32, 109, 97, 110, 121, 32, 115, 116, 97, 114, 115]⟩
def dx (why : ByteArray) : Value := .iface 133 (.agg #[.string why])
def ew (L : List St) (i : Nat) : Value :=
 if idB (stA L i).1 = false then dx uA else if upB L i = false then dx vD
 else if (aJ (stA L i).2.1 (stA L i).2.2.1 (stA L i).2.2.2 && dQ (stA L i).2.1 (stA L i).2.2.1 (stA L i).2.2.2) = false then dx ql
 else if dJ L (stA L i) i = true then dx ro else .nilIface
theorem vi {L : List St} {i : Nat} (h : dM L i = true) : ew L i = .nilIface := by
 unfold dM at h
 simp only [Bool.and_eq_true, Bool.not_eq_true'] at h
 obtain ⟨⟨⟨h1, h2⟩, h3, h4⟩, h5⟩ := h
 unfold ew
 simp [h1, h2, h3, h4, h5]
theorem rZ {L : List St} {i : Nat} (h : dM L i = false) : ∃ why, ew L i = dx why := by
 unfold ew
 split
 ·exact ⟨_, rfl⟩
 ·split
  ·exact ⟨_, rfl⟩
  ·split
   ·exact ⟨_, rfl⟩
   ·split
    ·exact ⟨_, rfl⟩
    ·rename_i h1 h2 h3 h4
     exfalso
     simp only [Bool.not_eq_false, Bool.not_eq_true] at h1 h2 h3 h4
     unfold dM at h
     rw [h1, h2, h3, h4] at h
     simp at h
theorem eE (w : World) (s : St) (t : TypeId) : fV (w.alloc (.cells #[.int .i64 s.1, .int .i64 s.2.1, .int .i64 s.2.2.1, .int .i64 s.2.2.2] t)) w.heap.size 0 s := by
 refine ⟨?_, ?_, ?_, ?_⟩ <;> simp
theorem mM (L : List St) (i : Nat) (s1 s2 s3 s4 : Int) (a : Option Addr) (c : Nat) (w : World) (hi : i ≤ 1048576) (hs : stA L i = (s1, s2, s3, s4)) (hS : aI w a L i) :
  Calls Tryz.prog 109 #[.agg #[.int .i64 s1, .int .i64 s2, .int .i64 s3, .int .i64 s4], .slice a i c] w fun e w' => e = .returned (ew L i) ∧ Below w.heap.size w w' := by
 have HS := yz hs
 clear hs
 have HA := yz hS
 clear hS
 have HB := yz (an w (.cells #[.int .i64 s1, .int .i64 s2, .int .i64 s3, .int .i64 s4] 80))
 have HN := yz (eE w (s1, s2, s3, s4) 80)
 by_cases h1 : s1 < 1
 ·have HO : Hid (ew L i = dx uA) := yz (by unfold ew; rw [if_pos (by rw [yy HS]; unfold idB; simp; omega)])
  go_enter Tryz.func109, Tryz.ntmps109
  go_wp2
  go_ret
  exact ⟨by rw [yy HO]; rfl, yy HB⟩
 by_cases h2 : 9999 < s1
 ·have HO : Hid (ew L i = dx uA) := yz (by unfold ew; rw [if_pos (by rw [yy HS]; unfold idB; simp; omega)])
  go_enter Tryz.func109, Tryz.ntmps109
  go_wp2
  go_ret
  exact ⟨by rw [yy HO]; rfl, yy HB⟩
 have K0 : Hid (¬ idB (stA L i).1 = false) := yz (by rw [yy HS]; unfold idB; simp; omega)
 by_cases hu : upB L i = false
 ·have HO : Hid (ew L i = dx vD) := yz (by unfold ew; rw [if_neg (yy K0), if_pos hu])
  obtain ⟨j, rfl⟩ : ∃ j, i = j + 1 := ⟨i - 1, by unfold upB at hu; simp at hu; omega⟩
  obtain ⟨⟨p1, p2, p3, p4⟩, hp⟩ : ∃ s, stA L j = s := ⟨_, rfl⟩
  have hle : s1 ≤ p1 := by unfold upB at hu; rw [yy HS] at hu; simp [hp] at hu; omega
  rcases yy HA with h0 | ⟨b, o, rfl, hb, hc⟩
  ·omega
  have hst := (hc j (by omega)).kept hb (yy HB)
  rw [hp] at hst
  obtain ⟨c0, _, _, _⟩ := hst
  have hj1 : (j : Int) + 1 - 1 = (j : Int) := by omega
  have hj2 : (0 : Int) < (j : Int) + 1 := by omega
  clear hu hp hc
  go_enter Tryz.func109, Tryz.ntmps109
  go_wp2_with fail
  go_quiet (fail)
  go_wp2_with fail
  go_ret
  exact ⟨by rw [yy HO]; rfl, aj (yy HB) (bP _ _)⟩
 have K1 := yz hu
 clear hu
 rcases Nat.eq_zero_or_pos i with hi0 | hi0
 ·subst hi0
  go_enter Tryz.func109, Tryz.ntmps109
  go_wp2_with fail
  go_quiet (fail)
  go_wp2_with fail
  have hx := aj (yy HB) (bP (w.alloc (.cells #[.int .i64 s1, .int .i64 s2, .int .i64 s3, .int .i64 s4] 80)) nq)
  have hn' := (yy HN).kept (by simp) (bP _ nq)
  generalize (w.alloc (.cells #[.int .i64 s1, .int .i64 s2, .int .i64 s3, .int .i64 s4] 80)).drewN nq = W1 at hx hn' ⊢
  have HB1 := yz hx
  have HN1 := yz hn'
  clear hx hn' HB HN
  obtain ⟨_, c1, c2, c3⟩ := yy HN1
  simp only [Nat.zero_add] at c1 c2 c3
  have r1 := cell_regrown c1
  have r2 := cell_regrown c2
  have r3 := cell_regrown c3
  clear c1 c2 c3
  cases hsm : aJ s2 s3 s4
  ·have HO : Hid (ew L 0 = dx ql) := yz (by unfold ew; rw [if_neg (yy K0), if_neg (yy K1), if_pos (by rw [yy HS]; simp [hsm])])
   have cS : Hid (∀ W : World, Calls Tryz.prog 119 #[.agg #[.int .i64 s2, .int .i64 s3, .int .i64 s4]] W fun e w' => e = .returned (.bool false) ∧ Below W.heap.size W w') := yz (fun W => (ec s2 s3 s4 W).mono fun e w' h => ⟨by rw [h.1, hsm], h.2⟩)
   clear hsm
   refine wp_region_quiet_below (by kernel_rfl) (by kernel_rfl) ?_
   repeat (quiet_step (first | (with_reducible exact Calls.regrown_of (yy cS _))))
   refine wpQuiet_nil ?_
   intro _ hw'
   obtain ⟨⟨dq, osq⟩, hw''⟩ := hw'
   subst hw''
   have hx := aj (yy HB1) (below_regrown W1 dq osq)
   go_wp2_with fail
   go_ret
   exact ⟨by rw [yy HO]; rfl, hx⟩
  ·have cS : Hid (∀ W : World, Calls Tryz.prog 119 #[.agg #[.int .i64 s2, .int .i64 s3, .int .i64 s4]] W fun e w' => e = .returned (.bool true) ∧ Below W.heap.size W w') := yz (fun W => (ec s2 s3 s4 W).mono fun e w' h => ⟨by rw [h.1, hsm], h.2⟩)
   have cP := yz (fun W => nz s2 s3 s4 W)
   have hq := fun W => ig s2 s3 s4 (prI (au s2 s3 s4) (gI s2 s3 s4) s2) (prI (au s2 s3 s4) (gI s2 s3 s4) s3) (prI (au s2 s3 s4) (gI s2 s3 s4) s4) W
   have hq2 : eqB s2 s3 s4 (prI (au s2 s3 s4) (gI s2 s3 s4) s2) (prI (au s2 s3 s4) (gI s2 s3 s4) s3) (prI (au s2 s3 s4) (gI s2 s3 s4) s4) = dQ s2 s3 s4 := rfl
   rw [hq2] at hq
   clear hq2
   generalize prI (au s2 s3 s4) (gI s2 s3 s4) s2 = t2 at cP hq
   generalize prI (au s2 s3 s4) (gI s2 s3 s4) s3 = t3 at cP hq
   generalize prI (au s2 s3 s4) (gI s2 s3 s4) s4 = t4 at cP hq
   cases hpr : dQ s2 s3 s4
   ·have HO : Hid (ew L 0 = dx ql) := yz (by unfold ew; rw [if_neg (yy K0), if_neg (yy K1), if_pos (by rw [yy HS]; simp [hpr])])
    rw [hpr] at hq
    refine wp_region_quiet_below (by kernel_rfl) (by kernel_rfl) ?_
    repeat (quiet_step (first | (with_reducible exact Calls.regrown_of (yy cS _)) | (with_reducible exact Calls.regrown_of (yy cP _))))
    refine wpQuiet_nil ?_
    intro _ hw'
    obtain ⟨⟨dq, osq⟩, hw''⟩ := hw'
    subst hw''
    have hx := below_regrown W1 dq osq
    replace hx := aj (yy HB1) hx
    go_wp2_with fail
    go_ret
    exact ⟨by rw [yy HO]; rfl, hx⟩
   ·have K2 : Hid (¬ (aJ (stA L 0).2.1 (stA L 0).2.2.1 (stA L 0).2.2.2 && dQ (stA L 0).2.1 (stA L 0).2.2.1 (stA L 0).2.2.2) = false) := yz (by rw [yy HS]; simp [hsm, hpr])
    clear hsm
    rw [hpr] at hq
    refine wp_region_quiet_below (by kernel_rfl) (by kernel_rfl) ?_
    repeat (quiet_step (first | (with_reducible exact Calls.regrown_of (yy cS _)) | (with_reducible exact Calls.regrown_of (yy cP _))))
    refine wpQuiet_nil ?_
    intro _ hw'
    obtain ⟨⟨dq, osq⟩, hw''⟩ := hw'
    subst hw''
    have hx := below_regrown W1 dq osq
    have hn2 := (yy HN1).kept (World.block_lt_of_cell? _ _ (yy HN1).1) hx
    have hb2 := aj (yy HB1) hx
    generalize grow (redrawn W1 dq) osq = W2 at hx hn2 hb2 ⊢
    have HB2 := yz hb2
    clear hx hb2 r1 r2 r3 hq cS cP HN1 HB1
    obtain ⟨_, c1, c2, c3⟩ := hn2
    simp only [Nat.zero_add] at c1 c2 c3
    go_wp2_with fail
    refine (kg L 0 s2 s3 s4 _ _ _ hi ((yy HA).kept (yy HB2))).mono ?_
    rintro e w3 ⟨rfl, hx⟩
    replace hx := aj (yy HB2) hx
    clear HB2 c1 c2 c3
    have ht : dJ L (0, s2, s3, s4) 0 = dJ L (stA L 0) 0 := by rw [yy HS]; rfl
    rw [ht]
    clear ht
    cases htk : dJ L (stA L 0) 0
    ·have HO : Hid (ew L 0 = .nilIface) := yz (by unfold ew; rw [if_neg (yy K0), if_neg (yy K1), if_neg (yy K2), if_neg (by rw [htk]; simp)])
     go_wp2_with fail
     go_ret
     exact ⟨by rw [yy HO]; rfl, hx⟩
    ·have HO : Hid (ew L 0 = dx ro) := yz (by unfold ew; rw [if_neg (yy K0), if_neg (yy K1), if_neg (yy K2), if_pos htk])
     go_wp2_with fail
     go_ret
     exact ⟨by rw [yy HO]; rfl, hx⟩
 ·obtain ⟨j, rfl⟩ : ∃ j, i = j + 1 := ⟨i - 1, by omega⟩
  obtain ⟨⟨p1, p2, p3, p4⟩, hp⟩ : ∃ s, stA L j = s := ⟨_, rfl⟩
  have hle : p1 < s1 := by have hu := yy K1; unfold upB at hu; rw [yy HS] at hu; simp [hp] at hu; omega
  rcases yy HA with h0 | ⟨b, o, rfl, hb, hc⟩
  ·omega
  have hst := (hc j (by omega)).kept hb (yy HB)
  rw [hp] at hst
  obtain ⟨c0, _, _, _⟩ := hst
  have hj1 : (j : Int) + 1 - 1 = (j : Int) := by omega
  have hj2 : (0 : Int) < (j : Int) + 1 := by omega
  clear hp hc
  go_enter Tryz.func109, Tryz.ntmps109
  go_wp2_with fail
  go_quiet (fail)
  go_wp2_with fail
  clear c0
  have hx := aj (yy HB) (bP (w.alloc (.cells #[.int .i64 s1, .int .i64 s2, .int .i64 s3, .int .i64 s4] 80)) nq)
  have hn' := (yy HN).kept (by simp) (bP _ nq)
  generalize (w.alloc (.cells #[.int .i64 s1, .int .i64 s2, .int .i64 s3, .int .i64 s4] 80)).drewN nq = W1 at hx hn' ⊢
  have HB1 := yz hx
  have HN1 := yz hn'
  clear hx hn' HB HN
  obtain ⟨_, c1, c2, c3⟩ := yy HN1
  simp only [Nat.zero_add] at c1 c2 c3
  have r1 := cell_regrown c1
  have r2 := cell_regrown c2
  have r3 := cell_regrown c3
  clear c1 c2 c3
  cases hsm : aJ s2 s3 s4
  ·have HO : Hid (ew L (j + 1) = dx ql) := yz (by unfold ew; rw [if_neg (yy K0), if_neg (yy K1), if_pos (by rw [yy HS]; simp [hsm])])
   have cS : Hid (∀ W : World, Calls Tryz.prog 119 #[.agg #[.int .i64 s2, .int .i64 s3, .int .i64 s4]] W fun e w' => e = .returned (.bool false) ∧ Below W.heap.size W w') := yz (fun W => (ec s2 s3 s4 W).mono fun e w' h => ⟨by rw [h.1, hsm], h.2⟩)
   clear hsm
   refine wp_region_quiet_below (by kernel_rfl) (by kernel_rfl) ?_
   repeat (quiet_step (first | (with_reducible exact Calls.regrown_of (yy cS _))))
   refine wpQuiet_nil ?_
   intro _ hw'
   obtain ⟨⟨dq, osq⟩, hw''⟩ := hw'
   subst hw''
   have hx := aj (yy HB1) (below_regrown W1 dq osq)
   go_wp2_with fail
   go_ret
   exact ⟨by rw [yy HO]; rfl, hx⟩
  ·have cS : Hid (∀ W : World, Calls Tryz.prog 119 #[.agg #[.int .i64 s2, .int .i64 s3, .int .i64 s4]] W fun e w' => e = .returned (.bool true) ∧ Below W.heap.size W w') := yz (fun W => (ec s2 s3 s4 W).mono fun e w' h => ⟨by rw [h.1, hsm], h.2⟩)
   have cP := yz (fun W => nz s2 s3 s4 W)
   have hq := fun W => ig s2 s3 s4 (prI (au s2 s3 s4) (gI s2 s3 s4) s2) (prI (au s2 s3 s4) (gI s2 s3 s4) s3) (prI (au s2 s3 s4) (gI s2 s3 s4) s4) W
   have hq2 : eqB s2 s3 s4 (prI (au s2 s3 s4) (gI s2 s3 s4) s2) (prI (au s2 s3 s4) (gI s2 s3 s4) s3) (prI (au s2 s3 s4) (gI s2 s3 s4) s4) = dQ s2 s3 s4 := rfl
   rw [hq2] at hq
   clear hq2
   generalize prI (au s2 s3 s4) (gI s2 s3 s4) s2 = t2 at cP hq
   generalize prI (au s2 s3 s4) (gI s2 s3 s4) s3 = t3 at cP hq
   generalize prI (au s2 s3 s4) (gI s2 s3 s4) s4 = t4 at cP hq
   cases hpr : dQ s2 s3 s4
   ·have HO : Hid (ew L (j + 1) = dx ql) := yz (by unfold ew; rw [if_neg (yy K0), if_neg (yy K1), if_pos (by rw [yy HS]; simp [hpr])])
    rw [hpr] at hq
    refine wp_region_quiet_below (by kernel_rfl) (by kernel_rfl) ?_
    repeat (quiet_step (first | (with_reducible exact Calls.regrown_of (yy cS _)) | (with_reducible exact Calls.regrown_of (yy cP _))))
    refine wpQuiet_nil ?_
    intro _ hw'
    obtain ⟨⟨dq, osq⟩, hw''⟩ := hw'
    subst hw''
    have hx := below_regrown W1 dq osq
    replace hx := aj (yy HB1) hx
    go_wp2_with fail
    go_ret
    exact ⟨by rw [yy HO]; rfl, hx⟩
   ·have K2 : Hid (¬ (aJ (stA L (j + 1)).2.1 (stA L (j + 1)).2.2.1 (stA L (j + 1)).2.2.2 && dQ (stA L (j + 1)).2.1 (stA L (j + 1)).2.2.1 (stA L (j + 1)).2.2.2) = false) := yz (by rw [yy HS]; simp [hsm, hpr])
    clear hsm
    rw [hpr] at hq
    refine wp_region_quiet_below (by kernel_rfl) (by kernel_rfl) ?_
    repeat (quiet_step (first | (with_reducible exact Calls.regrown_of (yy cS _)) | (with_reducible exact Calls.regrown_of (yy cP _))))
    refine wpQuiet_nil ?_
    intro _ hw'
    obtain ⟨⟨dq, osq⟩, hw''⟩ := hw'
    subst hw''
    have hx := below_regrown W1 dq osq
    have hn2 := (yy HN1).kept (World.block_lt_of_cell? _ _ (yy HN1).1) hx
    have hb2 := aj (yy HB1) hx
    generalize grow (redrawn W1 dq) osq = W2 at hx hn2 hb2 ⊢
    have HB2 := yz hb2
    clear hx hb2 r1 r2 r3 hq cS cP HN1 HB1
    obtain ⟨_, c1, c2, c3⟩ := hn2
    simp only [Nat.zero_add] at c1 c2 c3
    go_wp2_with fail
    refine (kg L (j + 1) s2 s3 s4 _ _ _ hi ((yy HA).kept (yy HB2))).mono ?_
    rintro e w3 ⟨rfl, hx⟩
    replace hx := aj (yy HB2) hx
    clear HB2 c1 c2 c3
    have ht : dJ L (0, s2, s3, s4) (j + 1) = dJ L (stA L (j + 1)) (j + 1) := by rw [yy HS]; rfl
    rw [ht]
    clear ht
    cases htk : dJ L (stA L (j + 1)) (j + 1)
    ·have HO : Hid (ew L (j + 1) = .nilIface) := yz (by unfold ew; rw [if_neg (yy K0), if_neg (yy K1), if_neg (yy K2), if_neg (by rw [htk]; simp)])
     go_wp2_with fail
     go_ret
     exact ⟨by rw [yy HO]; rfl, hx⟩
    ·have HO : Hid (ew L (j + 1) = dx ro) := yz (by unfold ew; rw [if_neg (yy K0), if_neg (yy K1), if_neg (yy K2), if_pos htk])
     go_wp2_with fail
     go_ret
     exact ⟨by rw [yy HO]; rfl, hx⟩
def fi (L : List St) : Value := if 12 < L.length then dx rY else match (List.range L.length).find? (fun i => !dM L i) with | none => .nilIface | some i => ew L i
theorem jS {L : List St} (hl : L.length ≤ 12) (h : pQ L L.length) : fi L = .nilIface := by
 unfold fi
 rw [if_neg (by omega)]
 have : (List.range L.length).find? (fun i => !dM L i) = none := by
  rw [List.find?_eq_none]
  intro j hj
  rw [h j (List.mem_range.1 hj)]
  simp
 rw [this]
theorem tq {L : List St} {k : Nat} (hl : L.length ≤ 12) (hk : k < L.length) (h : pQ L k) (h1 : dM L k = false) : fi L = ew L k := by
 unfold fi
 rw [if_neg (by omega)]
 have : (List.range L.length).find? (fun i => !dM L i) = some k := by
  rw [List.find?_range_eq_some]
  refine ⟨by rw [h1]; rfl, List.mem_range.2 hk, fun j hj => ?_⟩
  rw [h j hj]
  rfl
 rw [this]
theorem tr {L : List St} (h : aP L = false) : ∃ why, fi L = dx why := by
 unfold fi
 split
 ·exact ⟨_, rfl⟩
 ·rename_i hl
  cases hf : (List.range L.length).find? (fun i => !dM L i) with
  | none =>
   exfalso
   rw [List.find?_eq_none] at hf
   have : aP L = true := oM (by omega) (fun j hj => by have := hf j (List.mem_range.2 hj); simpa using this)
   rw [h] at this
   cases this
  | some i =>
   rw [List.find?_range_eq_some] at hf
   exact rZ (by simpa using hf.1)
theorem rn {L : List St} (h : aP L = true) : fi L = .nilIface := jS (bD h).1 (bD h).2
theorem jw (L : List St) (a : Option Addr) (c : Nat) (w : World) (hn : L.length ≤ 1048576) (hcap : L.length ≤ c) (hc9 : c ≤ 9223372036854775807) (hS : aI w a L L.length) :
  Calls Tryz.prog 84 #[.slice a L.length c] w fun e w' => e = .returned (fi L) ∧ Below w.heap.size w w' := by
 obtain ⟨n, hnl⟩ : ∃ n, L.length = n := ⟨_, rfl⟩
 rw [hnl] at hn hcap hS ⊢
 have HL := yz hnl
 clear hnl
 by_cases h12 : 12 < n
 ·have h12' : (12 : Int) < (n : Int) := by omega
  have HO : Hid (fi L = dx rY) := yz (by unfold fi; rw [if_pos (by rw [yy HL]; exact h12)])
  clear hS
  go_enter Tryz.func84, Tryz.ntmps84
  go_wp2
  go_ret
  exact ⟨by rw [yy HO]; rfl, Below.refl _ _⟩
 have h12' : ¬ (12 : Int) < (n : Int) := by omega
 rcases hS with rfl | ⟨b, o, rfl, hb, hc⟩
 ·have HO : Hid (fi L = .nilIface) := yz (jS (by rw [yy HL]; omega) (by rw [yy HL]; intro j hj; omega))
  go_enter Tryz.func84, Tryz.ntmps84
  go_wp2_with fail
  refine wp_loop_rounds 1 ?_
  rw [rounds_succ]
  go_wp2_with fail
  go_ret
  exact ⟨by rw [yy HO]; rfl, Below.refl _ _⟩
 have HC := yz hc
 have HS : Hid (aI w (some ⟨b, o, none⟩) L n) := yz (.inr ⟨b, o, rfl, hb, hc⟩)
 clear hc
 go_enter Tryz.func84, Tryz.ntmps84
 go_wp2_with fail
 go_loopw [13] (fun i wr => ∃ k : Nat, k ≤ n ∧ i = .int .i64 k ∧ Hid (pQ L k) ∧ Hid (Below w.heap.size w wr)) (fun i _ => n - (intOf i).toNat)
 case atStart => exact ⟨0, by omega, rfl, yz (fun j hj => absurd hj (Nat.not_lt_zero _)), yz (Below.refl _ _)⟩
 case round =>
  obtain ⟨k, hk, rfl, HF, HB⟩ := hrel
  by_cases hkn : k < n
  ·obtain ⟨⟨s1, s2, s3, s4⟩, hs⟩ : ∃ s, stA L k = s := ⟨_, rfl⟩
   have hst := ((yy HC) k hkn).kept hb (yy HB)
   rw [hs] at hst
   obtain ⟨c0, c1, c2, c3⟩ := hst
   have HT := yz hs
   clear hs
   have B1 := yz ((yy HB).alloc (yy HB).size (.cells #[.int .i64 s1, .int .i64 s2, .int .i64 s3, .int .i64 s4] 80))
   have N1 := yz (eE wr (s1, s2, s3, s4) 80)
   go_wp2_with fail
   clear c0 c1 c2 c3
   have hb1 := yy B1
   have hn1 := yy N1
   generalize hwe : wr.alloc (.cells #[.int .i64 s1, .int .i64 s2, .int .i64 s3, .int .i64 s4] 80) = W1 at hb1 hn1 ⊢
   have HB1 := yz hb1
   clear hwe hb1 B1 N1
   obtain ⟨c0, c1, c2, c3⟩ := hn1
   simp only [Nat.zero_add] at c0 c1 c2 c3
   have r0 := cell_regrown c0
   have r1 := cell_regrown c1
   have r2 := cell_regrown c2
   have r3 := cell_regrown c3
   clear c0 c1 c2 c3
   have cW := yz (fun (W : World) (hW : aI W (some ⟨b, o, none⟩) L k) => mM L k s1 s2 s3 s4 (some ⟨b, o, none⟩) k W (by omega) (yy HT) hW)
   have HSk := yz (((yy HS).less (Nat.le_of_lt hkn)).kept (yy HB1))
   have hkc : (k : Int) ≤ (c : Int) := by omega
   refine wp_region_quiet_below (by kernel_rfl) (by kernel_rfl) ?_
   repeat (quiet_step (first | (with_reducible exact Calls.regrown_of (yy cW _ ((yy HSk).kept (below_regrown _ _ _))))))
   refine wpQuiet_nil ?_
   intro _ hw'
   obtain ⟨⟨dq, osq⟩, hw''⟩ := hw'
   subst hw''
   have hx := aj (yy HB1) (below_regrown W1 dq osq)
   generalize grow (redrawn W1 dq) osq = W2 at hx ⊢
   have HB2 := yz hx
   clear hx HB1 HB cW HSk r0 r1 r2 r3
   cases hok : dM L k
   ·obtain ⟨why, hwhy⟩ := rZ hok
    have HO := yz (tq (by rw [yy HL]; omega) (by rw [yy HL]; exact hkn) (yy HF) hok)
    rw [hwhy] at HO ⊢
    unfold dx at HO ⊢
    clear hok hwhy
    go_wp2_with fail
    go_ret
    exact ⟨by rw [yy HO]; rfl, yy HB2⟩
   ·rw [vi hok]
    have HF2 := yz (oB (yy HF) hok)
    clear hok
    go_wp2_with fail
    go_roundw
    case rel => exact ⟨k + 1, by omega, by go_num, HF2, HB2⟩
    case measure => simp [intOf]; omega
  ·have hkn' : k = n := by omega
   subst hkn'
   have HO := yz (jS (L := L) (by rw [yy HL]; omega) (by rw [yy HL]; exact yy HF))
   go_wp2_with fail
   go_ret
   exact ⟨by rw [yy HO]; rfl, yy HB⟩
theorem eq (L : List St) (a : Option Addr) (c : Nat) (p : Addr) (w : World) (hn : L.length ≤ 1048576) (hcap : L.length ≤ c) (hc9 : c ≤ 9223372036854775807) (hS : aI w a L L.length) (hE : bj p w) :
  Calls Tryz.prog 49 #[.slice a L.length c] w fun e w' => e = .returned (.bool (aP L)) ∧ Below w.heap.size w w' := by
 have r0 := cell_regrown (show w.cell? ⟨0, 0, none⟩ = some (.iface 175 (.pointer (some p))) from hE)
 have HS := yz hS
 have HE := yz hE
 clear hS hE
 cases hk : aP L
 ·obtain ⟨why, hwhy⟩ := tr hk
  have cW : Hid (∀ W : World, aI W a L L.length → Calls Tryz.prog 84 #[.slice a L.length c] W fun e w' => e = .returned (.iface 133 (.agg #[.string why])) ∧ Below W.heap.size W w') := yz (fun W hW => (jw L a c W hn hcap hc9 hW).mono fun e w' h => ⟨by rw [h.1, hwhy]; rfl, h.2⟩)
  have cI := yz (fun (W : World) (hW : bj p W) => tV why p W hW)
  clear hwhy hk
  go_enter Tryz.func49, Tryz.ntmps49
  go_wp2_with fail
  refine wp_region_quiet_below (by kernel_rfl) (by kernel_rfl) ?_
  repeat (quiet_step (first | (with_reducible exact Calls.regrown_of (yy cW _ ((yy HS).kept (below_regrown _ _ _)))) | (with_reducible exact Calls.regrown_of (yy cI _ ((yy HE).kept (below_regrown _ _ _))))))
  refine wpQuiet_nil ?_
  intro _ hw'
  obtain ⟨⟨dq, osq⟩, hw''⟩ := hw'
  subst hw''
  have hx := below_regrown w dq osq
  go_wp2_with fail
  go_ret
  exact ⟨rfl, hx⟩
 ·have cW : Hid (∀ W : World, aI W a L L.length → Calls Tryz.prog 84 #[.slice a L.length c] W fun e w' => e = .returned .nilIface ∧ Below W.heap.size W w') := yz (fun W hW => (jw L a c W hn hcap hc9 hW).mono fun e w' h => ⟨by rw [h.1, rn hk], h.2⟩)
  have cI : Hid (∀ W : World, Calls Tryz.prog 83 #[.nilIface, .iface 175 (.pointer (some p))] W fun e w' => e = .returned (.bool false) ∧ Below W.heap.size W w') := yz (fun W => (vN p W).mono fun e w' h => ⟨h.1, by rw [h.2]; exact Below.refl _ _⟩)
  clear hk
  go_enter Tryz.func49, Tryz.ntmps49
  go_wp2_with fail
  refine wp_region_quiet_below (by kernel_rfl) (by kernel_rfl) ?_
  repeat (quiet_step (first | (with_reducible exact Calls.regrown_of (yy cW _ ((yy HS).kept (below_regrown _ _ _)))) | (with_reducible exact Calls.regrown_of (yy cI _))))
  refine wpQuiet_nil ?_
  intro _ hw'
  obtain ⟨⟨dq, osq⟩, hw''⟩ := hw'
  subst hw''
  have hx := below_regrown w dq osq
  go_wp2_with fail
  go_ret
  exact ⟨rfl, hx⟩
theorem pn (a1 a2 a3 b1 b2 b3 : Int) : eqB a1 a2 a3 b1 b2 b3 = eqI b1 b2 b3 a1 a2 a3 := by
 unfold eqB eqI
 congr 1
 apply propext
 constructor <;> rintro ⟨h1, h2, h3⟩ <;> exact ⟨h1.symm, h2.symm, h3.symm⟩
theorem pN {L : List St} {i : Nat} {s1 s2 s3 s4 : Int} (hs : stA L i = (s1, s2, s3, s4)) (h : idB s1 = false) : dM L i = false := by unfold dM; rw [hs]; simp [h]
theorem uh {L : List St} {i : Nat} (h : upB L i = false) : dM L i = false := by unfold dM; simp [h]
theorem jh {L : List St} {i : Nat} {s1 s2 s3 s4 : Int} (hs : stA L i = (s1, s2, s3, s4)) (h : aJ s2 s3 s4 = false) : dM L i = false := by unfold dM; rw [hs]; simp [h]
theorem pO {L : List St} {i : Nat} {s1 s2 s3 s4 : Int} (hs : stA L i = (s1, s2, s3, s4)) (h : dQ s2 s3 s4 = false) : dM L i = false := by unfold dM; rw [hs]; simp [h]
theorem ui {L : List St} {i : Nat} (h : dJ L (stA L i) i = true) : dM L i = false := by unfold dM; simp [h]
theorem pP {L : List St} {i : Nat} {s1 s2 s3 s4 : Int} (hs : stA L i = (s1, s2, s3, s4)) (h1 : idB s1 = true) (h2 : upB L i = true) (h3 : aJ s2 s3 s4 = true) (h4 : dQ s2 s3 s4 = true) (h5 : dJ L (stA L i) i = false) : dM L i = true := by
 unfold dM
 rw [h5, h2, hs]
 simp [h1, h3, h4]
theorem eK (L : List St) (a : Option Addr) (c : Nat) (w : World) (hn : L.length ≤ 1048576) (hS : aI w a L L.length) :
  Calls Tryz.prog 47 #[.slice a L.length c] w fun e w' => e = .returned (.bool (aP L)) ∧ Below w.heap.size w w' := by
 obtain ⟨n, hnl⟩ : ∃ n, L.length = n := ⟨_, rfl⟩
 rw [hnl] at hn hS ⊢
 have HL := yz hnl
 clear hnl
 by_cases h12 : 12 < n
 ·have h12' : (12 : Int) < (n : Int) := by omega
  have HO : Hid (aP L = false) := yz (ur (by rw [yy HL]; exact h12))
  clear hS
  go_enter Tryz.func47, Tryz.ntmps47
  go_wp2
  go_ret
  exact ⟨by rw [yy HO]; rfl, Below.refl _ _⟩
 have h12' : ¬ (12 : Int) < (n : Int) := by omega
 rcases hS with rfl | ⟨b, o, rfl, hb, hc⟩
 ·have HO : Hid (aP L = true) := yz (oM (by rw [yy HL]; omega) (by rw [yy HL]; intro j hj; omega))
  go_enter Tryz.func47, Tryz.ntmps47
  go_wp2_with fail
  refine wp_loop_rounds 1 ?_
  rw [rounds_succ]
  go_wp2_with fail
  go_ret
  exact ⟨by rw [yy HO]; rfl, Below.refl _ _⟩
 have HC := yz hc
 clear hc
 go_enter Tryz.func47, Tryz.ntmps47
 go_wp2_with fail
 go_loopw [3] (fun i wr => ∃ k : Nat, k ≤ n ∧ i = .int .i64 k ∧ Hid (pQ L k) ∧ Hid (Below w.heap.size w wr)) (fun i _ => n - (intOf i).toNat)
 case atStart => exact ⟨0, by omega, rfl, yz (fun j hj => absurd hj (Nat.not_lt_zero _)), yz (Below.refl _ _)⟩
 case round =>
  obtain ⟨k, hk, rfl, HF, HB⟩ := hrel
  by_cases hkn : k < n
  ·obtain ⟨⟨s1, s2, s3, s4⟩, hs⟩ : ∃ s, stA L k = s := ⟨_, rfl⟩
   have hst := ((yy HC) k hkn).kept hb (yy HB)
   rw [hs] at hst
   obtain ⟨c0, c1, c2, c3⟩ := hst
   have HT := yz hs
   clear hs
   have hkn2 : (k : Int) < (n : Int) := by omega
   have B1 := yz ((yy HB).alloc (yy HB).size (.cells #[.int .i64 s2, .int .i64 s3, .int .i64 s4] 78))
   have N1 := yz (aC wr s2 s3 s4 78)
   rcases Nat.eq_zero_or_pos k with hk0 | hk0
   ·subst hk0
    go_wp2_with fail
    clear c0 c1 c2 c3
    have hb1 := yy B1
    have hn1 := yy N1
    generalize hwe : wr.alloc (.cells #[.int .i64 s2, .int .i64 s3, .int .i64 s4] 78) = W1 at hb1 hn1 ⊢
    generalize hwb : wr.heap.size = vb at hn1 ⊢
    have HB1 := yz hb1
    have HN1 := yz hn1
    clear hwe hwb hb1 hn1 B1 N1 HB
    obtain ⟨v0, v1, v2⟩ := yy HN1
    have r0 := cell_regrown v0
    have r1 := cell_regrown v1
    have r2 := cell_regrown v2
    clear v0 v1 v2
    have hst := ((yy HC) (0) hkn).kept hb (yy HB1)
    rw [yy HT] at hst
    have hst1 := hst.1
    simp only [Nat.zero_mul, Nat.add_zero] at hst1
    have q0 := cell_regrown hst1
    clear hst hst1
    have cI : Hid (∀ W : World, Calls Tryz.prog 48 #[.int .i64 s1, .int .i64 1, .int .i64 9999] W fun e w' => e = .returned (.bool (idB s1)) ∧ Below W.heap.size W w') := yz (fun W => (cH s1 1 9999 W).mono fun e w' h => ⟨h.1, by rw [h.2]; exact Below.refl _ _⟩)
    have cR := yz (fun W => bQ s2 s3 s4 W)
    have cW := yz (fun W => dR 10 s2 s3 s4 W (by omega) (by omega))
    cases hid : idB s1
    ·have HO : Hid (aP L = false) := yz (fC (k := 0) (by rw [yy HL]; exact hkn) (pN (yy HT) hid))
     rw [hid] at cI
     refine wp_region_quiet_below (by kernel_rfl) (by kernel_rfl) ?_
     repeat (go_big_quiet_step (first | (with_reducible exact Calls.regrown_of (yy cI _))))
     refine wpQuiet_nil ?_
     intro _ hw'
     obtain ⟨⟨dq, osq⟩, hw''⟩ := hw'
     subst hw''
     have hx := aj (yy HB1) (below_regrown W1 dq osq)
     go_wp2_with fail
     go_ret
     exact ⟨by rw [yy HO]; rfl, hx⟩
    ·rw [hid] at cI
     have HU : Hid (upB L 0 = true) := yz rfl
     cases hr : au s2 s3 s4
     ·have HO : Hid (aP L = false) := yz (fC (k := 0) (by rw [yy HL]; exact hkn) (jh (yy HT) (by unfold aJ; rw [hr]; rfl)))
      rw [hr] at cR
      refine wp_region_quiet_below (by kernel_rfl) (by kernel_rfl) ?_
      repeat (go_big_quiet_step (first | (with_reducible exact Calls.regrown_of (yy cI _)) | (with_reducible exact Calls.regrown_of (yy cR _))))
      refine wpQuiet_nil ?_
      intro _ hw'
      obtain ⟨⟨dq, osq⟩, hw''⟩ := hw'
      subst hw''
      have hx := aj (yy HB1) (below_regrown W1 dq osq)
      go_wp2_with fail
      go_ret
      exact ⟨by rw [yy HO]; rfl, hx⟩
     ·rw [hr] at cR
      have cP := yz (fun W => el s2 s3 s4 W hr)
      cases hwi : aH 10 s2 s3 s4
      ·have HO : Hid (aP L = false) := yz (fC (k := 0) (by rw [yy HL]; exact hkn) (jh (yy HT) (by unfold aJ; rw [hwi]; simp)))
       rw [hwi] at cW
       refine wp_region_quiet_below (by kernel_rfl) (by kernel_rfl) ?_
       repeat (go_big_quiet_step (first | (with_reducible exact Calls.regrown_of (yy cI _)) | (with_reducible exact Calls.regrown_of (yy cR _)) | (with_reducible exact Calls.regrown_of (yy cW _))))
       refine wpQuiet_nil ?_
       intro _ hw'
       obtain ⟨⟨dq, osq⟩, hw''⟩ := hw'
       subst hw''
       have hx := aj (yy HB1) (below_regrown W1 dq osq)
       go_wp2_with fail
       go_ret
       exact ⟨by rw [yy HO]; rfl, hx⟩
      ·rw [hwi] at cW
       have hq := fun W => ig (wrap64 (s2.tdiv (gI s2 s3 s4))) (wrap64 (s3.tdiv (gI s2 s3 s4))) (wrap64 (s4.tdiv (gI s2 s3 s4))) s2 s3 s4 W
       have hq2 : eqB (wrap64 (s2.tdiv (gI s2 s3 s4))) (wrap64 (s3.tdiv (gI s2 s3 s4))) (wrap64 (s4.tdiv (gI s2 s3 s4))) s2 s3 s4 = dQ s2 s3 s4 := by rw [pn]; unfold dQ prI; rw [hr]; rfl
       rw [hq2] at hq
       clear hq2
       generalize wrap64 (s2.tdiv (gI s2 s3 s4)) = t2 at cP hq
       generalize wrap64 (s3.tdiv (gI s2 s3 s4)) = t3 at cP hq
       generalize wrap64 (s4.tdiv (gI s2 s3 s4)) = t4 at cP hq
       cases hpr : dQ s2 s3 s4
       ·have HO : Hid (aP L = false) := yz (fC (k := 0) (by rw [yy HL]; exact hkn) (pO (yy HT) hpr))
        rw [hpr] at hq
        refine wp_region_quiet_below (by kernel_rfl) (by kernel_rfl) ?_
        repeat (go_big_quiet_step (first | (with_reducible exact Calls.regrown_of (yy cI _)) | (with_reducible exact Calls.regrown_of (yy cR _)) | (with_reducible exact Calls.regrown_of (yy cW _)) | (with_reducible exact Calls.regrown_of (yy cP _))))
        refine wpQuiet_nil ?_
        intro _ hw'
        obtain ⟨⟨dq, osq⟩, hw''⟩ := hw'
        subst hw''
        have hx := aj (yy HB1) (below_regrown W1 dq osq)
        go_wp2_with fail
        go_ret
        exact ⟨by rw [yy HO]; rfl, hx⟩
       ·rw [hpr] at hq
        have HM : Hid (aJ s2 s3 s4 = true) := yz (by unfold aJ; rw [hr, hwi]; rfl)
        have HI := yz hid
        have HPR := yz hpr
        refine wp_region_quiet_below (by kernel_rfl) (by kernel_rfl) ?_
        repeat (go_big_quiet_step (first | (with_reducible exact Calls.regrown_of (yy cI _)) | (with_reducible exact Calls.regrown_of (yy cR _)) | (with_reducible exact Calls.regrown_of (yy cW _)) | (with_reducible exact Calls.regrown_of (yy cP _))))
        refine wpQuiet_nil ?_
        intro _ hw'
        obtain ⟨⟨dq, osq⟩, hw''⟩ := hw'
        subst hw''
        have hx := below_regrown W1 dq osq
        have hb2 := aj (yy HB1) hx
        have hn2 := (yy HN1).kept (vlt (yy HN1)) hx
        generalize grow (redrawn W1 dq) osq = W2 at hb2 hn2 hx ⊢
        have HB2 := yz hb2
        have HN2 := yz hn2
        clear hx hb2 hn2 r0 r1 r2 q0 hq cI cR cW cP hid hpr hwi hr HB1 HN1
        go_wp2_with fail
        go_loopw [5] (fun i wr => ∃ m : Nat, m ≤ 0 ∧ i = .int .i64 m ∧ Hid (jC L (stA L (0)) m) ∧ Hid (Below w.heap.size w wr) ∧ Hid (aD wr vb s2 s3 s4)) (fun i _ => (0) - (intOf i).toNat)
        case atStart => exact ⟨0, by omega, rfl, yz (fun j hj => absurd hj (Nat.not_lt_zero _)), HB2, HN2⟩
        case round =>
         obtain ⟨m, hm, rfl, HE, HB3, HN3⟩ := hrel
         by_cases hmk : m < 0
         ·omega
         ·have hmk' : m = 0 := by omega
          subst hmk'
          have HF2 := yz (oB (yy HF) (pP (yy HT) (yy HI) (yy HU) (yy HM) (yy HPR) (mp (yy HE))))
          go_wp2_with fail
          go_roundw
          case rel => exact ⟨0 + 1, by omega, by go_num, HF2, HB3⟩
          case measure => simp [intOf]; omega
   ·obtain ⟨j, hkj⟩ : ∃ j, k = j + 1 := ⟨k - 1, by omega⟩
    have HK : Hid (k - 1 = j) := yz (by omega)
    have HKJ := yz hkj
    have hjk : j < k := by omega
    clear hkj
    obtain ⟨⟨p1, p2, p3, p4⟩, hp⟩ : ∃ s, stA L j = s := ⟨_, rfl⟩
    have HP := yz hp
    clear hp
    go_wp2_with fail
    clear c0 c1 c2 c3
    have hb1 := yy B1
    have hn1 := yy N1
    generalize hwe : wr.alloc (.cells #[.int .i64 s2, .int .i64 s3, .int .i64 s4] 78) = W1 at hb1 hn1 ⊢
    generalize hwb : wr.heap.size = vb at hn1 ⊢
    have HB1 := yz hb1
    have HN1 := yz hn1
    clear hwe hwb hb1 hn1 B1 N1 HB
    obtain ⟨v0, v1, v2⟩ := yy HN1
    have r0 := cell_regrown v0
    have r1 := cell_regrown v1
    have r2 := cell_regrown v2
    clear v0 v1 v2
    have hst := ((yy HC) (k) hkn).kept hb (yy HB1)
    rw [yy HT] at hst
    have q0 := cell_regrown hst.1
    clear hst
    have hst := ((yy HC) j (by omega)).kept hb (yy HB1)
    rw [yy HP] at hst
    have q1 := cell_regrown hst.1
    clear hst
    have hj1 : (k : Int) - 1 = (j : Int) := by have := yy HKJ; omega
    have hj2 : (0 : Int) < (k : Int) := by omega
    have hj3 : (j : Int) < (n : Int) := by omega
    have cI : Hid (∀ W : World, Calls Tryz.prog 48 #[.int .i64 s1, .int .i64 1, .int .i64 9999] W fun e w' => e = .returned (.bool (idB s1)) ∧ Below W.heap.size W w') := yz (fun W => (cH s1 1 9999 W).mono fun e w' h => ⟨h.1, by rw [h.2]; exact Below.refl _ _⟩)
    have cR := yz (fun W => bQ s2 s3 s4 W)
    have cW := yz (fun W => dR 10 s2 s3 s4 W (by omega) (by omega))
    cases hid : idB s1
    ·have HO : Hid (aP L = false) := yz (fC (k := k) (by rw [yy HL]; exact hkn) (pN (yy HT) hid))
     rw [hid] at cI
     refine wp_region_quiet_below (by kernel_rfl) (by kernel_rfl) ?_
     repeat (go_big_quiet_step (first | (with_reducible exact Calls.regrown_of (yy cI _))))
     refine wpQuiet_nil ?_
     intro _ hw'
     obtain ⟨⟨dq, osq⟩, hw''⟩ := hw'
     subst hw''
     have hx := aj (yy HB1) (below_regrown W1 dq osq)
     go_wp2_with fail
     go_ret
     exact ⟨by rw [yy HO]; rfl, hx⟩
    ·rw [hid] at cI
     by_cases hup : s1 ≤ p1
     ·have HO : Hid (aP L = false) := yz (fC (k := k) (by rw [yy HL]; exact hkn) (uh (by unfold upB; rw [yy HK, yy HT]; simp [yy HP]; omega)))
      refine wp_region_quiet_below (by kernel_rfl) (by kernel_rfl) ?_
      repeat (go_big_quiet_step (first | (with_reducible exact Calls.regrown_of (yy cI _))))
      refine wpQuiet_nil ?_
      intro _ hw'
      obtain ⟨⟨dq, osq⟩, hw''⟩ := hw'
      subst hw''
      have hx := aj (yy HB1) (below_regrown W1 dq osq)
      go_wp2_with fail
      go_ret
      exact ⟨by rw [yy HO]; rfl, hx⟩
     have HU : Hid (upB L k = true) := yz (by unfold upB; rw [yy HK, yy HT]; simp [yy HP]; omega)
     have hup2 : decide (s1 ≤ p1) = false := by simp; omega
     clear hup
     cases hr : au s2 s3 s4
     ·have HO : Hid (aP L = false) := yz (fC (k := k) (by rw [yy HL]; exact hkn) (jh (yy HT) (by unfold aJ; rw [hr]; rfl)))
      rw [hr] at cR
      refine wp_region_quiet_below (by kernel_rfl) (by kernel_rfl) ?_
      repeat (go_big_quiet_step (first | (with_reducible exact Calls.regrown_of (yy cI _)) | (with_reducible exact Calls.regrown_of (yy cR _))))
      refine wpQuiet_nil ?_
      intro _ hw'
      obtain ⟨⟨dq, osq⟩, hw''⟩ := hw'
      subst hw''
      have hx := aj (yy HB1) (below_regrown W1 dq osq)
      go_wp2_with fail
      go_ret
      exact ⟨by rw [yy HO]; rfl, hx⟩
     ·rw [hr] at cR
      have cP := yz (fun W => el s2 s3 s4 W hr)
      cases hwi : aH 10 s2 s3 s4
      ·have HO : Hid (aP L = false) := yz (fC (k := k) (by rw [yy HL]; exact hkn) (jh (yy HT) (by unfold aJ; rw [hwi]; simp)))
       rw [hwi] at cW
       refine wp_region_quiet_below (by kernel_rfl) (by kernel_rfl) ?_
       repeat (go_big_quiet_step (first | (with_reducible exact Calls.regrown_of (yy cI _)) | (with_reducible exact Calls.regrown_of (yy cR _)) | (with_reducible exact Calls.regrown_of (yy cW _))))
       refine wpQuiet_nil ?_
       intro _ hw'
       obtain ⟨⟨dq, osq⟩, hw''⟩ := hw'
       subst hw''
       have hx := aj (yy HB1) (below_regrown W1 dq osq)
       go_wp2_with fail
       go_ret
       exact ⟨by rw [yy HO]; rfl, hx⟩
      ·rw [hwi] at cW
       have hq := fun W => ig (wrap64 (s2.tdiv (gI s2 s3 s4))) (wrap64 (s3.tdiv (gI s2 s3 s4))) (wrap64 (s4.tdiv (gI s2 s3 s4))) s2 s3 s4 W
       have hq2 : eqB (wrap64 (s2.tdiv (gI s2 s3 s4))) (wrap64 (s3.tdiv (gI s2 s3 s4))) (wrap64 (s4.tdiv (gI s2 s3 s4))) s2 s3 s4 = dQ s2 s3 s4 := by rw [pn]; unfold dQ prI; rw [hr]; rfl
       rw [hq2] at hq
       clear hq2
       generalize wrap64 (s2.tdiv (gI s2 s3 s4)) = t2 at cP hq
       generalize wrap64 (s3.tdiv (gI s2 s3 s4)) = t3 at cP hq
       generalize wrap64 (s4.tdiv (gI s2 s3 s4)) = t4 at cP hq
       cases hpr : dQ s2 s3 s4
       ·have HO : Hid (aP L = false) := yz (fC (k := k) (by rw [yy HL]; exact hkn) (pO (yy HT) hpr))
        rw [hpr] at hq
        refine wp_region_quiet_below (by kernel_rfl) (by kernel_rfl) ?_
        repeat (go_big_quiet_step (first | (with_reducible exact Calls.regrown_of (yy cI _)) | (with_reducible exact Calls.regrown_of (yy cR _)) | (with_reducible exact Calls.regrown_of (yy cW _)) | (with_reducible exact Calls.regrown_of (yy cP _))))
        refine wpQuiet_nil ?_
        intro _ hw'
        obtain ⟨⟨dq, osq⟩, hw''⟩ := hw'
        subst hw''
        have hx := aj (yy HB1) (below_regrown W1 dq osq)
        go_wp2_with fail
        go_ret
        exact ⟨by rw [yy HO]; rfl, hx⟩
       ·rw [hpr] at hq
        have HM : Hid (aJ s2 s3 s4 = true) := yz (by unfold aJ; rw [hr, hwi]; rfl)
        have HI := yz hid
        have HPR := yz hpr
        refine wp_region_quiet_below (by kernel_rfl) (by kernel_rfl) ?_
        repeat (go_big_quiet_step (first | (with_reducible exact Calls.regrown_of (yy cI _)) | (with_reducible exact Calls.regrown_of (yy cR _)) | (with_reducible exact Calls.regrown_of (yy cW _)) | (with_reducible exact Calls.regrown_of (yy cP _))))
        refine wpQuiet_nil ?_
        intro _ hw'
        obtain ⟨⟨dq, osq⟩, hw''⟩ := hw'
        subst hw''
        have hx := below_regrown W1 dq osq
        have hb2 := aj (yy HB1) hx
        have hn2 := (yy HN1).kept (vlt (yy HN1)) hx
        generalize grow (redrawn W1 dq) osq = W2 at hb2 hn2 hx ⊢
        have HB2 := yz hb2
        have HN2 := yz hn2
        clear hx hb2 hn2 r0 r1 r2 q0 hq cI cR cW cP hid hpr hwi hr HB1 HN1 q1 hup2
        go_wp2_with fail
        go_loopw [5] (fun i wr => ∃ m : Nat, m ≤ k ∧ i = .int .i64 m ∧ Hid (jC L (stA L (k)) m) ∧ Hid (Below w.heap.size w wr) ∧ Hid (aD wr vb s2 s3 s4)) (fun i _ => (k) - (intOf i).toNat)
        case atStart => exact ⟨0, by omega, rfl, yz (fun j hj => absurd hj (Nat.not_lt_zero _)), HB2, HN2⟩
        case round =>
         obtain ⟨m, hm, rfl, HE, HB3, HN3⟩ := hrel
         by_cases hmk : m < k
         ·obtain ⟨⟨t1, t2, t3, t4⟩, ht⟩ : ∃ s, stA L m = s := ⟨_, rfl⟩
          have hst := ((yy HC) m (by omega)).kept hb (yy HB3)
          rw [ht] at hst
          have hmn : (m : Int) < (n : Int) := by omega
          have hmj : (m : Int) < (k : Int) := by omega
          obtain ⟨_, g1, g2, g3⟩ := hst
          have k1 := cell_regrown g1
          have k2 := cell_regrown g2
          have k3 := cell_regrown g3
          clear g1 g2 g3
          obtain ⟨v0, v1, v2⟩ := yy HN3
          have r0 := cell_regrown v0
          have r1 := cell_regrown v1
          have r2 := cell_regrown v2
          clear v0 v1 v2
          have HQ : Hid (kl (stA L k) (stA L m) = (eqB (crW t3 t4 s3 s4) (crW t4 t2 s4 s2) (crW t2 t3 s2 s3) 0 0 0 && decide (0 < bi t2 t3 t4 s2 s3 s4))) := yz (by
           have hsm := em ((yy HF) m (by omega))
           rw [ht] at hsm
           have e := uX hsm (yy HM)
           rw [qR hsm (yy HM)] at e
           rw [ht, yy HT]
           exact e.symm)
          have cE := yz (fun W => gF t2 t3 t4 s2 s3 s4 W)
          generalize (eqB (crW t3 t4 s3 s4) (crW t4 t2 s4 s2) (crW t2 t3 s2 s3) 0 0 0 && decide (0 < bi t2 t3 t4 s2 s3 s4)) = y at HQ cE
          clear ht
          go_wp2_with fail
          refine wp_region_quiet_below (by kernel_rfl) (by kernel_rfl) ?_
          repeat (go_big_quiet_step (first | (with_reducible exact Calls.regrown_of (yy cE _))))
          refine wpQuiet_nil ?_
          intro _ hw'
          obtain ⟨⟨dq, osq⟩, hw''⟩ := hw'
          subst hw''
          have hx := below_regrown wr dq osq
          have hb4 := aj (yy HB3) hx
          have hn4 := (yy HN3).kept (vlt (yy HN3)) hx
          generalize grow (redrawn wr dq) osq = W4 at hx hb4 hn4 ⊢
          have HB4 := yz hb4
          have HN4 := yz hn4
          clear hx hb4 hn4 r0 r1 r2 k1 k2 k3 cE HB3 HN3
          cases y
          ·go_wp2_with fail
           go_roundw
           case rel => exact ⟨m + 1, by omega, by go_num, yz (nf (yy HE) (yy HQ)), HB4, HN4⟩
           case measure => simp [intOf]; omega
          ·have HO : Hid (aP L = false) := yz (fC (k := k) (by rw [yy HL]; exact hkn) (ui (nD hmk (yy HQ))))
           go_wp2_with fail
           go_ret
           exact ⟨by rw [yy HO]; rfl, yy HB4⟩
         ·have hmk' : m = k := by omega
          subst hmk'
          have HF2 := yz (oB (yy HF) (pP (yy HT) (yy HI) (yy HU) (yy HM) (yy HPR) (mp (yy HE))))
          go_wp2_with fail
          go_roundw
          case rel => exact ⟨m + 1, by omega, by go_num, HF2, HB3⟩
          case measure => simp [intOf]; omega
  ·have hkn' : k = n := by omega
   subst hkn'
   have HO := yz (oM (L := L) (by rw [yy HL]; omega) (by rw [yy HL]; exact yy HF))
   go_wp2_with fail
   go_ret
   exact ⟨by rw [yy HO]; rfl, yy HB⟩
def tt (w : World) (b o : Nat) : Prop := w.frozen? ⟨b, o, none⟩ = false ∧ w.frozen? ⟨b, o + 1, none⟩ = false ∧ w.frozen? ⟨b, o + 2, none⟩ = false ∧ w.frozen? ⟨b, o + 3, none⟩ = false
theorem tt.kept {w w' : World} {b o : Nat} (h : tt w b o) (hb : b < w.heap.size) (hB : Below w.heap.size w w') : tt w' b o := by
 obtain ⟨h0, h1, h2, h3⟩ := h
 exact ⟨by rw [hB.frozen (p := ⟨b, o, none⟩) hb]; exact h0, by rw [hB.frozen (p := ⟨b, o + 1, none⟩) hb]; exact h1, by rw [hB.frozen (p := ⟨b, o + 2, none⟩) hb]; exact h2, by rw [hB.frozen (p := ⟨b, o + 3, none⟩) hb]; exact h3⟩
def iQ (w : World) (b n : Nat) (L : List St) (k : Nat) : Prop := ∃ cur : Array Value, w.heap[b]? = some (.cells cur 80 (0, 0)) ∧ cur.size = n * 4 ∧
 ∀ j, j < k → cur[j * 4]? = some (.int .i64 (stA L j).1) ∧ cur[j * 4 + 1]? = some (.int .i64 (stA L j).2.1) ∧ cur[j * 4 + 2]? = some (.int .i64 (stA L j).2.2.1) ∧ cur[j * 4 + 3]? = some (.int .i64 (stA L j).2.2.2)
theorem iQ.lt {w : World} {b n k : Nat} {L : List St} (h : iQ w b n L k) : b < w.heap.size := by
 obtain ⟨cur, hc, _⟩ := h
 exact (Array.getElem?_eq_some_iff.1 hc).1
theorem iQ.kept {w w' : World} {b n k : Nat} {L : List St} (h : iQ w b n L k) (hB : Below w.heap.size w w') : iQ w' b n L k := by
 have hl := h.lt
 obtain ⟨cur, hc, r⟩ := h
 exact ⟨cur, by rw [hB.block b hl]; exact hc, r⟩
theorem iQ.stars {w : World} {b n k : Nat} {L : List St} (h : iQ w b n L k) : aI w (some ⟨b, 0, none⟩) L k := by
 have hl := h.lt
 obtain ⟨cur, hc, _, hs⟩ := h
 refine .inr ⟨b, 0, rfl, hl, fun i hi => ?_⟩
 obtain ⟨h0, h1, h2, h3⟩ := hs i hi
 rw [Nat.zero_add]
 exact ⟨by rw [cell_of_row w b _ cur _ _ hc]; exact h0, by rw [cell_of_row w b _ cur _ _ hc]; exact h1, by rw [cell_of_row w b _ cur _ _ hc]; exact h2, by rw [cell_of_row w b _ cur _ _ hc]; exact h3⟩
theorem iQ.free {w : World} {b n k : Nat} {L : List St} (h : iQ w b n L k) (i : Nat) : w.frozen? ⟨b, i, none⟩ = false := by
 obtain ⟨cur, hc, _⟩ := h
 exact frozen_of_row w b i cur _ hc
theorem hH : (Tryz.prog.info? 80).map (fun i => (i.zero, i.size, i.bytes)) = some (some (.agg #[.int .i64 0, .int .i64 0, .int .i64 0, .int .i64 0]), 4, 32) := by kernel_rfl
def jI (L : List St) (id : Int) (k : Nat) : Prop := ∀ j, j < k → (stA L j).1 ≠ id
def atV (L : List St) (n : Nat) (id : Int) : Int × Int × Int := match (List.range n).find? (fun j => decide ((stA L j).1 = id)) with | none => (0, 0, 0) | some j => (stA L j).2
theorem kH {L : List St} {n : Nat} {id : Int} (h : jI L id n) : atV L n id = (0, 0, 0) := by
 unfold atV
 have : (List.range n).find? (fun j => decide ((stA L j).1 = id)) = none := by
  rw [List.find?_eq_none]
  intro j hj
  simp [h j (List.mem_range.1 hj)]
 rw [this]
theorem qr {L : List St} {n k : Nat} {id : Int} (hk : k < n) (h : jI L id k) (h1 : (stA L k).1 = id) : atV L n id = (stA L k).2 := by
 unfold atV
 have : (List.range n).find? (fun j => decide ((stA L j).1 = id)) = some k := by
  rw [List.find?_range_eq_some]
  exact ⟨by simp [h1], List.mem_range.2 hk, fun j hj => by simp [h j hj]⟩
 rw [this]
theorem nt {L : List St} {k : Nat} {id : Int} (h : jI L id k) (h1 : (stA L k).1 ≠ id) : jI L id (k + 1) := by
 intro j hj
 by_cases e : j = k
 ·rw [e]; exact h1
 ·exact h j (by omega)
def gO (L : List St) (id : Int) : Int × Int × Int := if aP L = true then atV L L.length id else (0, 0, 0)
def oX (v : Int × Int × Int) : Value := .agg #[.int .i64 v.1, .int .i64 v.2.1, .int .i64 v.2.2]
theorem jF (L : List St) (n : Nat) (id : Int) (a : Option Addr) (c : Nat) (w : World) (hn : n ≤ 1048576) (hS : aI w a L n) :
  Calls Tryz.prog 89 #[.slice a n c, .int .i64 id] w fun e w' => e = .returned (oX (atV L n id)) ∧ Below w.heap.size w w' := by
 rcases hS with rfl | ⟨b, o, rfl, hb, hc⟩
 ·have HO : Hid (atV L 0 id = (0, 0, 0)) := yz (kH (fun j hj => absurd hj (Nat.not_lt_zero _)))
  go_enter Tryz.func89, Tryz.ntmps89
  go_wp2_with fail
  refine wp_loop_rounds 1 ?_
  rw [rounds_succ]
  go_wp2_with fail
  exact bodyPost_ret (v := .agg #[.int .i64 0, .int .i64 0, .int .i64 0]) (by simp [results, Tryz.results89, go_sem]) rfl ⟨by rw [yy HO]; rfl, an _ _⟩
 go_enter Tryz.func89, Tryz.ntmps89
 go_wp2_with fail
 have hv := aC w 0 0 0 78
 have hf := bu w 0 0 0 78
 have hB := an w (.cells #[.int .i64 0, .int .i64 0, .int .i64 0] 78)
 generalize w.alloc (.cells #[.int .i64 0, .int .i64 0, .int .i64 0] 78) = W at hv hf hB ⊢
 have HC : Hid (∀ i, i < n → fV W b (o + i * 4) (stA L i)) := yz (fun i hi => (hc i hi).kept hb hB)
 have HB := yz hB
 clear hc hB
 obtain ⟨v0, v1, v2⟩ := hv
 obtain ⟨f0, f1, f2⟩ := hf
 go_loop [5] (fun i => ∃ k : Nat, k ≤ n ∧ i = .int .i64 k ∧ Hid (jI L id k)) (fun i => n - (intOf i).toNat)
 case atStart => exact ⟨0, by omega, rfl, yz (fun j hj => absurd hj (Nat.not_lt_zero _))⟩
 case round =>
  obtain ⟨k, hk, rfl, HF⟩ := hrel
  by_cases hkn : k < n
  ·obtain ⟨⟨s1, s2, s3, s4⟩, hs⟩ : ∃ s, stA L k = s := ⟨_, rfl⟩
   have hst := (yy HC) k hkn
   rw [hs] at hst
   obtain ⟨c0, c1, c2, c3⟩ := hst
   have HT := yz hs
   clear hs
   by_cases hq : s1 = id
   ·have HO : Hid (atV L n id = (s2, s3, s4)) := yz (by rw [qr hkn (yy HF) (by rw [yy HT]; exact hq), yy HT])
    have hq' : (s1 == id) = true := by simp [hq]
    clear hq
    go_wp2_with fail
    exact bodyPost_ret (v := .agg #[.int .i64 s2, .int .i64 s3, .int .i64 s4]) (by simp [results, Tryz.results89, go_sem, v0, v1, v2]) rfl ⟨by rw [yy HO]; rfl, aQ (yy HB) (Nat.le_refl _) _ _ _⟩
   ·have HF2 := yz (nt (yy HF) (by rw [yy HT]; exact hq))
    have hq' : (s1 == id) = false := by simp [hq]
    clear hq
    go_wp2_with fail
    go_round
    case rel => exact ⟨k + 1, by omega, by go_num, HF2⟩
    case measure => simp [intOf]; omega
  ·have hkn' : k = n := by omega
   subst hkn'
   have HO := yz (kH (yy HF))
   go_wp2_with fail
   exact bodyPost_ret (v := .agg #[.int .i64 0, .int .i64 0, .int .i64 0]) (by simp [results, Tryz.results89, go_sem, v0, v1, v2]) rfl ⟨by rw [yy HO]; rfl, aQ (yy HB) (Nat.le_refl _) _ _ _⟩
theorem mf (L : List St) (id : Int) (a : Option Addr) (c : Nat) (w : World) (hn : L.length ≤ 1048576) (hS : aI w a L L.length) :
  Calls Tryz.prog 56 #[.slice a L.length c, .int .i64 id] w fun e w' => e = .returned (oX (gO L id)) ∧ Below w.heap.size w w' := by
 have cS := yz (fun (W : World) hW => eK L a c W hn hW)
 have cA := yz (fun (W : World) hW => jF L L.length id a c W hn hW)
 have HS := yz hS
 clear hS
 have HV := yz (show gO L id = if aP L = true then atV L L.length id else (0, 0, 0) from rfl)
 have H12 : Hid (aP L = true → L.length ≤ 12) := yz (fun h => (bD h).1)
 generalize L.length = n at *
 have V0 := yz (aC w 0 0 0 78)
 have F0 := yz (bu w 0 0 0 78)
 have B0 := yz (an w (.cells #[.int .i64 0, .int .i64 0, .int .i64 0] 78))
 by_cases hbig : (400 : Int) < (n : Int)
 ·have hk : ¬ aP L = true := fun h => by have := yy H12 h; omega
  rw [if_neg hk] at HV
  clear hk
  go_enter Tryz.func56, Tryz.ntmps56
  go_wp2_with fail
  exact bodyPost_ret (v := .agg #[.int .i64 0, .int .i64 0, .int .i64 0]) (by simp [results, Tryz.results56, go_sem]) rfl ⟨by rw [yy HV]; rfl, yy B0⟩
 have hbig' : decide ((400 : Int) < (n : Int)) = false := by simpa using hbig
 go_enter Tryz.func56, Tryz.ntmps56
 go_wp2_with fail
 refine (yy cS _ ((yy HS).kept (yy B0))).mono ?_
 rintro e w1 ⟨rfl, hx⟩
 have HB := yz (aj (yy B0) hx)
 have V1 := yz ((yy V0).kept (by simp) hx)
 have F1 := yz ((yy F0).kept (by simp) hx)
 clear hx V0 F0 B0
 cases hk : aP L
 ·rw [hk] at HV
  obtain ⟨v0, v1, v2⟩ := yy V1
  obtain ⟨f0, f1, f2⟩ := yy F1
  clear hk
  go_wp2_with fail
  exact bodyPost_ret (v := .agg #[.int .i64 0, .int .i64 0, .int .i64 0]) (by simp [results, Tryz.results56, go_sem, v0, v1, v2]) rfl ⟨by rw [yy HV]; rfl, aQ (yy HB) (Nat.le_refl _) _ _ _⟩
 ·rw [hk] at HV
  clear hk
  go_wp2_with fail
  refine (yy cA _ ((yy HS).kept (yy HB))).mono ?_
  rintro e w2 ⟨rfl, hx⟩
  have HB2 := yz (aj (yy HB) hx)
  obtain ⟨v0, v1, v2⟩ := (yy V1).kept (vlt (yy V1)) hx
  obtain ⟨f0, f1, f2⟩ := (yy F1).kept (vlt (yy V1)) hx
  clear hx HB V1 F1
  obtain ⟨⟨t1, t2, t3⟩, ht⟩ : ∃ v, atV L n id = v := ⟨_, rfl⟩
  have HV2 : Hid (gO L id = (t1, t2, t3)) := yz (by rw [yy HV, ht]; rfl)
  rw [ht]
  unfold oX
  clear ht
  go_wp2_with fail
  exact bodyPost_ret (v := .agg #[.int .i64 t1, .int .i64 t2, .int .i64 t3]) (by simp [results, Tryz.results56, go_sem, v0, v1, v2]) rfl ⟨by rw [yy HV2]; rfl, aQ (yy HB2) (Nat.le_refl _) _ _ _⟩
theorem qX (L : List St) (id : Int) (a : Option Addr) (c : Nat) (p : Addr) (w : World) (hn : L.length ≤ 1048576) (hcap : L.length ≤ c) (hc9 : c ≤ 9223372036854775807) (hS : aI w a L L.length) (hE : bj p w) :
  Calls Tryz.prog 125 #[.slice a L.length c, .int .i64 id] w fun e w' => e = .returned (oX (gO L id)) ∧ Below w.heap.size w w' := by
 have cS := yz (fun (W : World) hW hE => eq L a c p W hn hcap hc9 hW hE)
 have HS := yz hS
 have HE := yz hE
 clear hS hE
 have HV := yz (show gO L id = if aP L = true then atV L L.length id else (0, 0, 0) from rfl)
 generalize L.length = n at *
 have V0 := yz (aC w 0 0 0 78)
 have F0 := yz (bu w 0 0 0 78)
 have B0 := yz (an w (.cells #[.int .i64 0, .int .i64 0, .int .i64 0] 78))
 go_enter Tryz.func125, Tryz.ntmps125
 go_wp2_with fail
 refine (yy cS _ ((yy HS).kept (yy B0)) ((yy HE).kept (yy B0))).mono ?_
 rintro e w1 ⟨rfl, hx⟩
 have HB := yz (aj (yy B0) hx)
 have V1 := yz ((yy V0).kept (by simp) hx)
 have F1 := yz ((yy F0).kept (by simp) hx)
 clear hx V0 F0 B0
 cases hk : aP L
 ·rw [hk] at HV
  obtain ⟨v0, v1, v2⟩ := yy V1
  obtain ⟨f0, f1, f2⟩ := yy F1
  clear hk
  go_wp2_with fail
  exact bodyPost_ret (v := .agg #[.int .i64 0, .int .i64 0, .int .i64 0]) (by simp [results, Tryz.results125, go_sem, v0, v1, v2]) rfl ⟨by rw [yy HV]; rfl, aQ (yy HB) (Nat.le_refl _) _ _ _⟩
 rw [hk] at HV
 have HV' : Hid (gO L id = atV L n id) := yz (by rw [yy HV]; rfl)
 clear hk HV
 rcases yy HS with rfl | ⟨b, o, rfl, hb, hc⟩
 ·have HO : Hid (atV L 0 id = (0, 0, 0)) := yz (kH (fun j hj => absurd hj (Nat.not_lt_zero _)))
  obtain ⟨v0, v1, v2⟩ := yy V1
  obtain ⟨f0, f1, f2⟩ := yy F1
  go_wp2_with fail
  refine wp_loop_rounds 1 ?_
  rw [rounds_succ]
  go_wp2_with fail
  exact bodyPost_ret (v := .agg #[.int .i64 0, .int .i64 0, .int .i64 0]) (by simp [results, Tryz.results125, go_sem, v0, v1, v2]) rfl ⟨by rw [yy HV', yy HO]; rfl, aQ (yy HB) (Nat.le_refl _) _ _ _⟩
 have HC := yz hc
 clear hc
 go_wp2_with fail
 go_loopw [13] (fun i wr => ∃ k : Nat, k ≤ n ∧ i = .int .i64 k ∧ Hid (jI L id k) ∧ Hid (Below w.heap.size w wr) ∧ Hid (aD wr w.heap.size 0 0 0) ∧ Hid (bT wr w.heap.size)) (fun i _ => n - (intOf i).toNat)
 case atStart => exact ⟨0, by omega, rfl, yz (fun j hj => absurd hj (Nat.not_lt_zero _)), HB, V1, F1⟩
 case round =>
  clear HB V1 F1
  obtain ⟨k, hk, rfl, HF, HB, V1, F1⟩ := hrel
  by_cases hkn : k < n
  ·obtain ⟨⟨s1, s2, s3, s4⟩, hs⟩ : ∃ s, stA L k = s := ⟨_, rfl⟩
   have hst := ((yy HC) k hkn).kept hb (yy HB)
   rw [hs] at hst
   obtain ⟨c0, c1, c2, c3⟩ := hst
   have HT := yz hs
   clear hs
   have B2 := yz ((yy HB).alloc (yy HB).size (.cells #[.int .i64 s1, .int .i64 s2, .int .i64 s3, .int .i64 s4] 80))
   have V2 := yz ((yy V1).kept (vlt (yy V1)) (an wr (.cells #[.int .i64 s1, .int .i64 s2, .int .i64 s3, .int .i64 s4] 80)))
   have F2 := yz ((yy F1).kept (vlt (yy V1)) (an wr (.cells #[.int .i64 s1, .int .i64 s2, .int .i64 s3, .int .i64 s4] 80)))
   obtain ⟨v0, v1, v2⟩ := yy V2
   obtain ⟨f0, f1, f2⟩ := yy F2
   by_cases hq : s1 = id
   ·have HO : Hid (atV L n id = (s2, s3, s4)) := yz (by rw [qr hkn (yy HF) (by rw [yy HT]; exact hq), yy HT])
    have hq' : (s1 == id) = true := by simp [hq]
    clear hq
    go_wp2_with fail
    exact bodyPost_ret (v := .agg #[.int .i64 s2, .int .i64 s3, .int .i64 s4]) (by simp [results, Tryz.results125, go_sem, v0, v1, v2]) rfl ⟨by rw [yy HV', yy HO]; rfl, aQ (yy B2) (Nat.le_refl _) _ _ _⟩
   ·have HF2 := yz (nt (yy HF) (by rw [yy HT]; exact hq))
    have hq' : (s1 == id) = false := by simp [hq]
    clear hq
    go_wp2_with fail
    go_roundw
    case rel => exact ⟨k + 1, by omega, by go_num, HF2, B2, V2, F2⟩
    case measure => simp [intOf]; omega
  ·have hkn' : k = n := by omega
   subst hkn'
   have HO := yz (kH (yy HF))
   obtain ⟨v0, v1, v2⟩ := yy V1
   obtain ⟨f0, f1, f2⟩ := yy F1
   go_wp2_with fail
   exact bodyPost_ret (v := .agg #[.int .i64 0, .int .i64 0, .int .i64 0]) (by simp [results, Tryz.results125, go_sem, v0, v1, v2]) rfl ⟨by rw [yy HV', yy HO]; rfl, aQ (yy HB) (Nat.le_refl _) _ _ _⟩
end
section
open Go.RowKit
def dN (w : World) (t : TypeId) (g m : Nat) (f : Nat → Int) : Prop := ∃ cur : Array Value, w.heap[g]? = some (.cells cur t (0, 0)) ∧ ∀ j, j < m → cur[j]? = some (.int .i64 (f j))
theorem dN.lt {w : World} {t : TypeId} {g m : Nat} {f : Nat → Int} (h : dN w t g m f) : g < w.heap.size := by
 obtain ⟨cur, hc, _⟩ := h
 exact (Array.getElem?_eq_some_iff.1 hc).1
theorem dN.same {w w' : World} {t : TypeId} {g m : Nat} {f : Nat → Int} (h : dN w t g m f) (e : w'.heap[g]? = w.heap[g]?) : dN w' t g m f := by
 obtain ⟨cur, hc, hs⟩ := h
 exact ⟨cur, by rw [e]; exact hc, hs⟩
theorem dN.kept {w w' : World} {t : TypeId} {g m : Nat} {f : Nat → Int} (h : dN w t g m f) (hB : Below w.heap.size w w') : dN w' t g m f := h.same (hB.block g h.lt)
theorem dN.congr {w : World} {t : TypeId} {g m : Nat} {f f' : Nat → Int} (h : dN w t g m f) (e : ∀ j, j < m → f j = f' j) : dN w t g m f' := by
 obtain ⟨cur, hc, hs⟩ := h
 exact ⟨cur, hc, fun j hj => by rw [hs j hj, e j hj]⟩
theorem dN.cell {w : World} {t : TypeId} {g m j : Nat} {f : Nat → Int} (h : dN w t g m f) (hj : j < m) : w.cell? ⟨g, j, none⟩ = some (.int .i64 (f j)) := by
 obtain ⟨cur, hc, hs⟩ := h
 rw [cell_of_row w g j cur t _ hc]
 exact hs j hj
theorem dN.free {w : World} {t : TypeId} {g m : Nat} {f : Nat → Int} (h : dN w t g m f) (j : Nat) : w.frozen? ⟨g, j, none⟩ = false := by
 obtain ⟨cur, hc, _⟩ := h
 exact frozen_of_row w g j cur t hc
theorem dN.set {w : World} {t : TypeId} {g m : Nat} {f : Nat → Int} (h : dN w t g m f) (i : Nat) (v : Int) : dN (w.setCell ⟨g, i, none⟩ (.int .i64 v)) t g m (fun j => if j = i then v else f j) := by
 obtain ⟨cur, hc, hs⟩ := h
 refine ⟨_, heap_setCell_same w g i cur t (.int .i64 v) hc, fun j hj => ?_⟩
 have := hs j hj
 rw [Array.getElem?_setIfInBounds]
 by_cases e : i = j
 ·subst e
  simp [(Array.getElem?_eq_some_iff.1 this).1]
 ·have e' : ¬ j = i := fun h => e (Eq.symm h)
  simp [e, e', this]
theorem eY (w : World) (row : Option Nat) : w.grownBy w row := ⟨rfl, rfl, rfl, Nat.le_refl _, fun _ _ _ => rfl⟩
theorem gE {w w1 : World} {g : Nat} (h : w.grownBy w1 (some g)) (i : Nat) (v : Value) : w.grownBy (w1.setCell ⟨g, i, none⟩ v) (some g) :=
 ⟨h.os, h.tape, h.output, by simpa [World.setCell] using h.size, fun k hk hne => by rw [Below.heap_setCell _ _ _ _ (fun e => hne (by rw [e]))]; exact h.block k hk hne⟩
end
section
open Go.RowKit Go.Sort
abbrev V3 := Int × Int × Int
def qo (w : World) (b : Nat) (x y : Int) : Prop := w.cell? ⟨b, 0, none⟩ = some (.int .i64 x) ∧ w.cell? ⟨b, 1, none⟩ = some (.int .i64 y)
theorem qo.kept {w w' : World} {b : Nat} {x y : Int} (h : qo w b x y) (hB : Below w.heap.size w w') : qo w' b x y := by
 have hb := World.block_lt_of_cell? w _ h.1
 exact ⟨by rw [hB.cell (p := ⟨b, 0, none⟩) hb]; exact h.1, by rw [hB.cell (p := ⟨b, 1, none⟩) hb]; exact h.2⟩
end
section
open Go.RowKit
theorem aD.lt' {w : World} {b : Nat} {x y z : Int} (h : aD w b x y z) : b < w.heap.size := World.block_lt_of_cell? w _ h.1
theorem uw {w1 wx wn : World} {X : Prop} (hx : Below wx.heap.size wx wn) (h : X ∧ Below w1.heap.size w1 wx) : Below w1.heap.size w1 wn := aj h.2 hx
def sd (w : World) (b : Nat) : Prop := aD w b 0 0 0 ∧ bT w b
theorem vR {wy wn : World} {t : TypeId} (hx : Below (wy.alloc (.cells #[.int .i64 0, .int .i64 0, .int .i64 0] t)).heap.size (wy.alloc (.cells #[.int .i64 0, .int .i64 0, .int .i64 0] t)) wn) : sd wn wy.heap.size :=
 ⟨(aC wy 0 0 0 t).kept (by simp) hx, (bu wy 0 0 0 t).kept (by simp) hx⟩
theorem uT {wy wn : World} {t : TypeId} (hx : Below ((wy.alloc (.cells #[.int .i64 0, .int .i64 0, .int .i64 0] t)).drew).heap.size ((wy.alloc (.cells #[.int .i64 0, .int .i64 0, .int .i64 0] t)).drew) wn) : sd wn wy.heap.size :=
 ⟨(show aD (wy.alloc (.cells #[.int .i64 0, .int .i64 0, .int .i64 0] t)).drew wy.heap.size 0 0 0 from aC wy 0 0 0 t).kept (by simp) hx, (show bT (wy.alloc (.cells #[.int .i64 0, .int .i64 0, .int .i64 0] t)).drew wy.heap.size from bu wy 0 0 0 t).kept (by simp) hx⟩
theorem uQ {wx wn : World} {b : Nat} (h : sd wx b) (hx : Below wx.heap.size wx wn) : sd wn b := ⟨h.1.kept (aD.lt' h.1) hx, h.2.kept (aD.lt' h.1) hx⟩
theorem mo {w1 wx : World} (h : Below w1.heap.size w1 wx) (o : Obj) : Below w1.heap.size w1 (wx.alloc o) := h.alloc h.size _
theorem rm {w : World} {b : Nat} (h : sd w b) (x y z : Int) : aD (((w.setCell ⟨b, 0, none⟩ (.int .i64 x)).setCell ⟨b, 1, none⟩ (.int .i64 y)).setCell ⟨b, 2, none⟩ (.int .i64 z)) b x y z := by
 obtain ⟨⟨h0, h1, h2⟩, _⟩ := h
 refine ⟨?_, ?_, ?_⟩ <;> simp [go_sem, h0, h1, h2]
theorem ph {w1 wx : World} {b : Nat} (h : Below w1.heap.size w1 wx) (hb : w1.heap.size ≤ b) (x y z : Value) : Below w1.heap.size w1 (((wx.setCell ⟨b, 0, none⟩ x).setCell ⟨b, 1, none⟩ y).setCell ⟨b, 2, none⟩ z) := ((h.setCell hb _).setCell hb _).setCell hb _
theorem ti {w1 wx : World} {X : Prop} (h : X ∧ Below w1.heap.size w1 wx) (o : Obj) : Below w1.heap.size w1 (wx.alloc o) := h.2.alloc h.2.size _
theorem ux {w1 wx : World} {X : Prop} {b : Nat} (h : X ∧ Below w1.heap.size w1 wx) (hb : w1.heap.size ≤ b) (x y z : Value) : Below w1.heap.size w1 (((wx.setCell ⟨b, 0, none⟩ x).setCell ⟨b, 1, none⟩ y).setCell ⟨b, 2, none⟩ z) := ((h.2.setCell hb _).setCell hb _).setCell hb _
end
section
open Go.RowKit Go.Sort
abbrev P2 := Int × Int
end
end Go.Proofs.YtgiodlllokdcdaaGreatDoor
