/- Several texts in one: VecG, SkyB, SkyC, SkyD. -/
import Derived.Lib.QuietBelow
import Derived.BigQuiet
import Derived.Test.YtnffnjljjecphaaDoorQCommandReadOwn5
import Derived.Test.YtnffnjljjecphaaDoorQCommandReadOwn7
import Derived.Test.YtnffnjljjecphaaDoorQCommandReadOwn1
import Derived.Test.YtnffnjljjecphaaDoorQCommandReadOwn3
namespace Go.Proofs.YtnffnjljjecphaaDoor
open Go.RowKit
set_option linter.unusedVariables false

def gS (x y z : Int) : Nat → Int
  | 0 => 0
  | 1 => ((Int.gcd 0 x : Nat) : Int)
  | 2 => ((Int.gcd ((Int.gcd 0 x : Nat) : Int) y : Nat) : Int)
  | _ => ((Int.gcd ((Int.gcd ((Int.gcd 0 x : Nat) : Int) y : Nat) : Int) z : Nat) : Int)
theorem gS_le {x y z : Int} (k : Nat) (h : (-1000000 ≤ x ∧ x ≤ 1000000) ∧ (-1000000 ≤ y ∧ y ≤ 1000000) ∧ (-1000000 ≤ z ∧ z ≤ 1000000)) : -1000000 ≤ gS x y z k ∧ gS x y z k ≤ 1000000 := by
  have h1 := gcd_le (a := 0) (m := 1000000) (by omega) h.1
  have h2 := gcd_le (m := 1000000) (a := ((Int.gcd 0 x : Nat) : Int)) (by omega) h.2.1
  have h3 := gcd_le (m := 1000000) (a := ((Int.gcd ((Int.gcd 0 x : Nat) : Int) y : Nat) : Int)) (by omega) h.2.2
  match k with
  | 0 => exact ⟨by show (-1000000 : Int) ≤ 0; omega, by show (0 : Int) ≤ 1000000; omega⟩
  | 1 => exact ⟨by show (-1000000 : Int) ≤ ((Int.gcd 0 x : Nat) : Int); omega, h1.2⟩
  | 2 => exact ⟨by show (-1000000 : Int) ≤ ((Int.gcd ((Int.gcd 0 x : Nat) : Int) y : Nat) : Int); omega, h2.2⟩
  | k + 3 => exact ⟨by show (-1000000 : Int) ≤ ((Int.gcd ((Int.gcd ((Int.gcd 0 x : Nat) : Int) y : Nat) : Int) z : Nat) : Int); omega, h3.2⟩

set_option maxRecDepth 100000 in
theorem prime_any (a1 a2 a3 : Int) (w : World) :
    Calls Tryd.prog 125 #[.agg #[.int .i64 a1, .int .i64 a2, .int .i64 a3]] w fun e w' => e = .returned (.agg #[.int .i64 (prI (rightB a1 a2 a3) (gI a1 a2 a3) a1), .int .i64 (prI (rightB a1 a2 a3) (gI a1 a2 a3) a2), .int .i64 (prI (rightB a1 a2 a3) (gI a1 a2 a3) a3)]) ∧ Below w.heap.size w w' := by
  go_enter Tryd.func125, Tryd.ntmps125
  go_wp2_with fail
  refine (vecRight_any a1 a2 a3 _).mono ?_
  rintro e w1 ⟨rfl, hB1⟩
  have hB : Below w.heap.size w w1 := below_call (below2 _ _ _) hB1
  have hs : w.heap.size + 2 ≤ w1.heap.size := by have := hB1.size; simpa [Nat.add_assoc] using this
  have va : VecAt w1 w.heap.size a1 a2 a3 := ((by simpa using vecAt_new w a1 a2 a3 _ : VecAt _ w.heap.size a1 a2 a3).alloc (by simp) _).kept (by simp; omega) hB1
  have vr : VecAt w1 (w.heap.size + 1) 0 0 0 := (by simpa using vecAt_new (w.alloc _) 0 0 0 _ : VecAt _ (w.heap.size + 1) 0 0 0).kept (by simp) hB1
  have fr : FreeAt w1 (w.heap.size + 1) := (by simpa using freeAt_new (w.alloc _) 0 0 0 _ : FreeAt _ (w.heap.size + 1)).kept (by simp) hB1
  clear hB1
  have hva := va
  obtain ⟨ca0, ca1, ca2⟩ := va
  have hvr := vr
  have hfr := fr
  obtain ⟨cr0, cr1, cr2⟩ := vr
  obtain ⟨fr0, fr1, fr2⟩ := fr
  cases ha : rightB a1 a2 a3
  · go_wp2_with fail
    exact bodyPost_ret (v := .agg #[.int .i64 0, .int .i64 0, .int .i64 0]) (by simp [results, Tryd.results125, go_sem, cr0, cr1, cr2]) rfl ⟨by simp [prI, ha], below_set3 hB (by omega) _ _ _⟩
  · go_wp2_with fail
    refine (parts_any a1 a2 a3 _).mono ?_
    rintro e w2 ⟨rfl, hB2⟩
    have va := hva.kept (by omega) hB2
    have vr := hvr.kept (by omega) hB2
    have fr := hfr.kept (by omega) hB2
    replace hs : w.heap.size + 2 ≤ w2.heap.size := by have := hB2.size; omega
    replace hB : Below w.heap.size w w2 := below_call hB hB2
    clear hB2 hva hvr hfr ca0 ca1 ca2 cr0 cr1 cr2 fr0 fr1 fr2
    have i0 : ∀ w : World, (Instr.index 167 (.agg #[.int .i64 a1, .int .i64 a2, .int .i64 a3]) (.int .i64 0)).run Tryd.prog w = .ok (.int .i64 a1) w := fun _ => by kernel_rfl
    have i1 : ∀ w : World, (Instr.index 167 (.agg #[.int .i64 a1, .int .i64 a2, .int .i64 a3]) (.int .i64 1)).run Tryd.prog w = .ok (.int .i64 a2) w := fun _ => by kernel_rfl
    have i2 : ∀ w : World, (Instr.index 167 (.agg #[.int .i64 a1, .int .i64 a2, .int .i64 a3]) (.int .i64 2)).run Tryd.prog w = .ok (.int .i64 a3) w := fun _ => by kernel_rfl
    have HR := hide (rightB_iff.1 ha).1
    have HP := hide (gI_pos ha)
    go_wp2_with fail
    go_loopw [3, 12] (fun u i wr => ∃ (k n : Nat), k ≤ 3 ∧ i = .int .i64 k ∧ u = .int .i64 (gS a1 a2 a3 k) ∧ wr = w2.drewN n) (fun _ i _ => 3 - (intOf i).toNat)
    case atStart => exact ⟨0, 0, by omega, rfl, rfl, rfl⟩
    case round =>
      obtain ⟨k, n, hk, rfl, rfl, rfl⟩ := hrel
      have hk4 : k = 0 ∨ k = 1 ∨ k = 2 ∨ k = 3 := by omega
      rcases hk4 with rfl | rfl | rfl | rfl
      · go_wp2_with fail
        refine (shared_any _ a1 _ (gS_le 0 (unhide HR)) (unhide HR).1).mono ?_
        rintro e w3 ⟨rfl, m, rfl⟩
        go_wp2_with fail
        go_roundw
        case rel => exact ⟨1, n + m, by omega, rfl, rfl, by simp⟩
        case measure => simp [intOf]
      · go_wp2_with fail
        refine (shared_any _ a2 _ (gS_le 1 (unhide HR)) (unhide HR).2.1).mono ?_
        rintro e w3 ⟨rfl, m, rfl⟩
        go_wp2_with fail
        go_roundw
        case rel => exact ⟨2, n + m, by omega, rfl, rfl, by simp⟩
        case measure => simp [intOf]
      · go_wp2_with fail
        refine (shared_any _ a3 _ (gS_le 2 (unhide HR)) (unhide HR).2.2).mono ?_
        rintro e w3 ⟨rfl, m, rfl⟩
        go_wp2_with fail
        go_roundw
        case rel => exact ⟨3, n + m, by omega, rfl, rfl, by simp⟩
        case measure => simp [intOf]
      · have hgs : gS a1 a2 a3 3 = gI a1 a2 a3 := gcd_three a1 a2 a3
        rw [hgs]
        clear hgs
        have hpos := unhide HP
        have hz0 : (gI a1 a2 a3 == 0) = false := by simp; omega
        generalize hge : gI a1 a2 a3 = g at hpos hz0 ⊢
        have HG := hide hge
        clear hge i0 i1 i2
        have va' : VecAt (w2.drewN n) w.heap.size a1 a2 a3 := va
        have vr' : VecAt (w2.drewN n) (w.heap.size + 1) 0 0 0 := vr
        have fr' : FreeAt (w2.drewN n) (w.heap.size + 1) := fr
        have hB' : Below w.heap.size w (w2.drewN n) := below_call hB (below_drewN _ _)
        clear va vr fr hB hs
        go_wp2_with fail
        generalize w2.drewN n = w3 at va' vr' fr' hB' ⊢
        obtain ⟨ca0, ca1, ca2⟩ := va'
        obtain ⟨cr0, cr1, cr2⟩ := vr'
        obtain ⟨fr0, fr1, fr2⟩ := fr'
        go_region
        go_wp2
        exact bodyPost_ret (v := .agg #[.int .i64 (wrap64 (a1.tdiv g)), .int .i64 (wrap64 (a2.tdiv g)), .int .i64 (wrap64 (a3.tdiv g))]) (by simp [results, Tryd.results125, go_sem, cr0, cr1, cr2]) rfl ⟨by rw [unhide HG]; simp [prI, ha], (below_set3 hB' (by omega) _ _ _).drew⟩
end Go.Proofs.YtnffnjljjecphaaDoor

namespace Go.Proofs.YtnffnjljjecphaaDoor
open Go.RowKit
set_option linter.unusedVariables false

def StarAt (w : World) (b o : Nat) (s : St) : Prop := w.cell? ⟨b, o, none⟩ = some (.int .i64 s.1) ∧ w.cell? ⟨b, o + 1, none⟩ = some (.int .i64 s.2.1) ∧ w.cell? ⟨b, o + 2, none⟩ = some (.int .i64 s.2.2.1) ∧ w.cell? ⟨b, o + 3, none⟩ = some (.int .i64 s.2.2.2)
/-- the first n stars of L lie at a -/
def Stars (w : World) (a : Option Addr) (L : List St) (n : Nat) : Prop := n = 0 ∨ ∃ b o, a = some ⟨b, o, none⟩ ∧ b < w.heap.size ∧ ∀ i, i < n → StarAt w b (o + i * 4) (stA L i)
theorem StarAt.kept {w w' : World} {b o : Nat} {s : St} (h : StarAt w b o s) (hb : b < w.heap.size) (hB : Below w.heap.size w w') : StarAt w' b o s := by
  obtain ⟨h0, h1, h2, h3⟩ := h
  exact ⟨by rw [hB.cell (p := ⟨b, o, none⟩) hb]; exact h0, by rw [hB.cell (p := ⟨b, o + 1, none⟩) hb]; exact h1, by rw [hB.cell (p := ⟨b, o + 2, none⟩) hb]; exact h2, by rw [hB.cell (p := ⟨b, o + 3, none⟩) hb]; exact h3⟩
theorem Stars.kept {w w' : World} {a : Option Addr} {L : List St} {n : Nat} (h : Stars w a L n) (hB : Below w.heap.size w w') : Stars w' a L n := by
  rcases h with h | ⟨b, o, ha, hb, hc⟩
  · exact .inl h
  · exact .inr ⟨b, o, ha, Nat.lt_of_lt_of_le hb hB.size, fun i hi => (hc i hi).kept hb hB⟩
theorem vlt {w : World} {b : Nat} {x y z : Int} (h : VecAt w b x y z) : b < w.heap.size := World.block_lt_of_cell? w _ h.1
theorem Stars.less {w : World} {a : Option Addr} {L : List St} {n m : Nat} (h : Stars w a L n) (hm : m ≤ n) : Stars w a L m := by
  rcases h with h | ⟨b, o, ha, hb, hc⟩
  · exact .inl (by omega)
  · exact .inr ⟨b, o, ha, hb, fun i hi => hc i (by omega)⟩

set_option maxHeartbeats 1000000 in
set_option maxRecDepth 100000 in
theorem isTaken_any (L : List St) (n : Nat) (x y z : Int) (a : Option Addr) (c : Nat) (w : World) (hn : n ≤ 1048576) (hS : Stars w a L n) :
    Calls Tryd.prog 126 #[.agg #[.int .i64 x, .int .i64 y, .int .i64 z], .slice a n c] w fun e w' => e = .returned (.bool (takenB L (0, x, y, z) n)) ∧ Below w.heap.size w w' := by
  rcases hS with rfl | ⟨b, o, rfl, hb, hc⟩
  · go_enter Tryd.func126, Tryd.ntmps126
    go_wp2_with fail
    refine wp_loop_rounds 1 ?_
    rw [rounds_succ]
    go_wp2_with fail
    go_ret
    exact ⟨rfl, below1 _ _⟩
  · have HC := hide hc
    clear hc
    have V0 := hide (vecAt_new w x y z 75)
    have B0 := hide (below1 w (.cells #[.int .i64 x, .int .i64 y, .int .i64 z] 75))
    go_enter Tryd.func126, Tryd.ntmps126
    go_wp2_with fail
    go_loopw [9] (fun i wr => ∃ k : Nat, k ≤ n ∧ i = .int .i64 k ∧ Hid (freeTo L (0, x, y, z) k) ∧ Hid (Below w.heap.size w wr) ∧ Hid (VecAt wr w.heap.size x y z)) (fun i _ => n - (intOf i).toNat)
    case atStart => exact ⟨0, by omega, rfl, hide (fun j hj => absurd hj (Nat.not_lt_zero _)), B0, V0⟩
    case round =>
      obtain ⟨k, hk, rfl, HF, HB, HV⟩ := hrel
      by_cases hkn : k < n
      · obtain ⟨⟨s1, s2, s3, s4⟩, hs⟩ : ∃ s, stA L k = s := ⟨_, rfl⟩
        have hst := ((unhide HC) k hkn).kept hb (unhide HB)
        rw [hs] at hst
        obtain ⟨c0, c1, c2, c3⟩ := hst
        have HS := hide hs
        clear hs
        have V1 := hide (VecAt.alloc (unhide HV) (vlt (unhide HV)) (.cells #[.int .i64 s1, .int .i64 s2, .int .i64 s3, .int .i64 s4] 131))
        have B1 := hide ((unhide HB).alloc (unhide HB).size (.cells #[.int .i64 s1, .int .i64 s2, .int .i64 s3, .int .i64 s4] 131))
        obtain ⟨v0, v1, v2⟩ := unhide V1
        go_wp2_with fail
        refine (sameWay_any x y z s2 s3 s4 _).mono ?_
        rintro e w2 ⟨rfl, hx⟩
        have HV2 := hide ((unhide V1).kept (vlt (unhide V1)) hx)
        have HB2 := hide (below_call (unhide B1) hx)
        clear hx c0 c1 c2 c3 v0 v1 v2 V1 B1 HB HV
        have HR : Hid (sameS (0, x, y, z) (stA L k) = sameB x y z s2 s3 s4) := hide (by rw [unhide HS]; rfl)
        cases hq : sameB x y z s2 s3 s4
        · rw [hq] at HR
          go_wp2_with fail
          go_roundw
          case rel => exact ⟨k + 1, by omega, by go_num, hide (free_step (unhide HF) (unhide HR)), HB2, HV2⟩
          case measure => simp [intOf]; omega
        · rw [hq] at HR
          go_wp2_with fail
          go_ret
          exact ⟨by rw [taken_yes hkn (unhide HR)]; rfl, unhide HB2⟩
      · have hkn' : k = n := by omega
        subst hkn'
        go_wp2_with fail
        go_ret
        exact ⟨by rw [taken_no (unhide HF)]; rfl, unhide HB⟩
end Go.Proofs.YtnffnjljjecphaaDoor

namespace Go.Proofs.YtnffnjljjecphaaDoor
open Go.RowKit Go.Sort
set_option linter.unusedVariables false

def whyId : ByteArray := ⟨#[97, 110, 32, 73, 100, 32, 105, 115, 32, 110, 111, 116, 32, 49, 32, 116, 111, 32, 57, 57, 57, 57]⟩
def whyUp : ByteArray := ⟨#[116, 104, 101, 32, 73, 100, 115, 32, 97, 114, 101, 32, 110, 111, 116, 32, 114, 105, 115, 105, 110, 103]⟩
def whyAt : ByteArray := ⟨#[97, 32, 115, 116, 97, 114, 32, 105, 115, 32, 97, 116, 32, 110, 111, 32, 115, 109, 97, 108, 108, 32, 100, 105, 114, 101, 99, 116, 105, 111, 110, 32, 116, 104, 97, 116, 32, 105, 115, 32, 105, 116, 115, 32, 111, 119, 110, 32, 112, 114, 105, 109, 101]⟩
def whyTwo : ByteArray := ⟨#[116, 119, 111, 32, 115, 116, 97, 114, 115, 32, 97, 114, 101, 32, 116, 104, 101, 32, 115, 97, 109, 101, 32, 119, 97, 121]⟩
def whyMany : ByteArray := ⟨#[116, 104, 101, 114, 101, 32, 97, 114, 101, 32, 116, 111, 111, 32, 109, 97, 110, 121, 32, 115, 116, 97, 114, 115]⟩
def faultA (why : ByteArray) : Value := .iface 165 (.agg #[.string why])
/-- what the program tells of the star at place i -/
def whyV (L : List St) (i : Nat) : Value :=
  if idB (stA L i).1 = false then faultA whyId else if upB L i = false then faultA whyUp
  else if (smallB (stA L i).2.1 (stA L i).2.2.1 (stA L i).2.2.2 && primeB (stA L i).2.1 (stA L i).2.2.1 (stA L i).2.2.2) = false then faultA whyAt
  else if takenB L (stA L i) i = true then faultA whyTwo else .nilIface
theorem whyV_ok {L : List St} {i : Nat} (h : okAt L i = true) : whyV L i = .nilIface := by
  unfold okAt at h
  simp only [Bool.and_eq_true, Bool.not_eq_true'] at h
  obtain ⟨⟨⟨h1, h2⟩, h3, h4⟩, h5⟩ := h
  unfold whyV
  simp [h1, h2, h3, h4, h5]
theorem whyV_no {L : List St} {i : Nat} (h : okAt L i = false) : ∃ why, whyV L i = faultA why := by
  unfold whyV
  split
  · exact ⟨_, rfl⟩
  · split
    · exact ⟨_, rfl⟩
    · split
      · exact ⟨_, rfl⟩
      · split
        · exact ⟨_, rfl⟩
        · rename_i h1 h2 h3 h4
          exfalso
          simp only [Bool.not_eq_false, Bool.not_eq_true] at h1 h2 h3 h4
          unfold okAt at h
          rw [h1, h2, h3, h4] at h
          simp at h

/-- a star's cells at a block of its own -/
theorem starAt_new (w : World) (s : St) (t : TypeId) : StarAt (w.alloc (.cells #[.int .i64 s.1, .int .i64 s.2.1, .int .i64 s.2.2.1, .int .i64 s.2.2.2] t)) w.heap.size 0 s := by
  refine ⟨?_, ?_, ?_, ?_⟩ <;> simp

set_option maxHeartbeats 2000000 in
set_option maxRecDepth 100000 in
theorem whyNoStar_any (L : List St) (i : Nat) (s1 s2 s3 s4 : Int) (a : Option Addr) (c : Nat) (w : World) (hi : i ≤ 1048576) (hs : stA L i = (s1, s2, s3, s4)) (hS : Stars w a L i) :
    Calls Tryd.prog 120 #[.agg #[.int .i64 s1, .int .i64 s2, .int .i64 s3, .int .i64 s4], .slice a i c] w fun e w' => e = .returned (whyV L i) ∧ Below w.heap.size w w' := by
  have HS := hide hs
  clear hs
  have HA := hide hS
  clear hS
  have HB := hide (below1 w (.cells #[.int .i64 s1, .int .i64 s2, .int .i64 s3, .int .i64 s4] 131))
  have HN := hide (starAt_new w (s1, s2, s3, s4) 131)
  by_cases h1 : s1 < 1
  · have HO : Hid (whyV L i = faultA whyId) := hide (by unfold whyV; rw [if_pos (by rw [unhide HS]; unfold idB; simp; omega)])
    go_enter Tryd.func120, Tryd.ntmps120
    go_wp2
    go_ret
    exact ⟨by rw [unhide HO]; rfl, unhide HB⟩
  by_cases h2 : 9999 < s1
  · have HO : Hid (whyV L i = faultA whyId) := hide (by unfold whyV; rw [if_pos (by rw [unhide HS]; unfold idB; simp; omega)])
    go_enter Tryd.func120, Tryd.ntmps120
    go_wp2
    go_ret
    exact ⟨by rw [unhide HO]; rfl, unhide HB⟩
  have K0 : Hid (¬ idB (stA L i).1 = false) := hide (by rw [unhide HS]; unfold idB; simp; omega)
  by_cases hu : upB L i = false
  · have HO : Hid (whyV L i = faultA whyUp) := hide (by unfold whyV; rw [if_neg (unhide K0), if_pos hu])
    obtain ⟨j, rfl⟩ : ∃ j, i = j + 1 := ⟨i - 1, by unfold upB at hu; simp at hu; omega⟩
    obtain ⟨⟨p1, p2, p3, p4⟩, hp⟩ : ∃ s, stA L j = s := ⟨_, rfl⟩
    have hle : s1 ≤ p1 := by unfold upB at hu; rw [unhide HS] at hu; simp [hp] at hu; omega
    rcases unhide HA with h0 | ⟨b, o, rfl, hb, hc⟩
    · omega
    have hst := (hc j (by omega)).kept hb (unhide HB)
    rw [hp] at hst
    obtain ⟨c0, _, _, _⟩ := hst
    have hj1 : (j : Int) + 1 - 1 = (j : Int) := by omega
    have hj2 : (0 : Int) < (j : Int) + 1 := by omega
    clear hu hp hc
    go_enter Tryd.func120, Tryd.ntmps120
    go_wp2_with fail
    go_quiet (fail)
    go_wp2_with fail
    go_ret
    exact ⟨by rw [unhide HO]; rfl, below_call (unhide HB) (below_drewN _ _)⟩
  have K1 := hide hu
  clear hu
  rcases Nat.eq_zero_or_pos i with hi0 | hi0
  · subst hi0
    go_enter Tryd.func120, Tryd.ntmps120
    go_wp2_with fail
    go_quiet (fail)
    go_wp2_with fail
    have hx := below_call (unhide HB) (below_drewN (w.alloc (.cells #[.int .i64 s1, .int .i64 s2, .int .i64 s3, .int .i64 s4] 131)) nq)
    have hn' := (unhide HN).kept (by simp) (below_drewN _ nq)
    generalize (w.alloc (.cells #[.int .i64 s1, .int .i64 s2, .int .i64 s3, .int .i64 s4] 131)).drewN nq = W1 at hx hn' ⊢
    have HB1 := hide hx
    have HN1 := hide hn'
    clear hx hn' HB HN
    obtain ⟨_, c1, c2, c3⟩ := unhide HN1
    simp only [Nat.zero_add] at c1 c2 c3
    have r1 := cell_regrown c1
    have r2 := cell_regrown c2
    have r3 := cell_regrown c3
    clear c1 c2 c3
    cases hsm : smallB s2 s3 s4
    · have HO : Hid (whyV L 0 = faultA whyAt) := hide (by unfold whyV; rw [if_neg (unhide K0), if_neg (unhide K1), if_pos (by rw [unhide HS]; simp [hsm])])
      have cS : Hid (∀ W : World, Calls Tryd.prog 124 #[.agg #[.int .i64 s2, .int .i64 s3, .int .i64 s4]] W fun e w' => e = .returned (.bool false) ∧ Below W.heap.size W w') := hide (fun W => (isSmall_any s2 s3 s4 W).mono fun e w' h => ⟨by rw [h.1, hsm], h.2⟩)
      clear hsm
      refine wp_region_quiet_below (by kernel_rfl) (by kernel_rfl) ?_
      repeat (quiet_step (first | (with_reducible exact Calls.regrown_of (unhide cS _))))
      refine wpQuiet_nil ?_
      intro _ hw'
      obtain ⟨⟨dq, osq⟩, hw''⟩ := hw'
      subst hw''
      have hx := below_call (unhide HB1) (below_regrown W1 dq osq)
      go_wp2_with fail
      go_ret
      exact ⟨by rw [unhide HO]; rfl, hx⟩
    · have cS : Hid (∀ W : World, Calls Tryd.prog 124 #[.agg #[.int .i64 s2, .int .i64 s3, .int .i64 s4]] W fun e w' => e = .returned (.bool true) ∧ Below W.heap.size W w') := hide (fun W => (isSmall_any s2 s3 s4 W).mono fun e w' h => ⟨by rw [h.1, hsm], h.2⟩)
      have cP := hide (fun W => prime_any s2 s3 s4 W)
      have hq := fun W => neq_vec s2 s3 s4 (prI (rightB s2 s3 s4) (gI s2 s3 s4) s2) (prI (rightB s2 s3 s4) (gI s2 s3 s4) s3) (prI (rightB s2 s3 s4) (gI s2 s3 s4) s4) W
      have hq2 : eqB s2 s3 s4 (prI (rightB s2 s3 s4) (gI s2 s3 s4) s2) (prI (rightB s2 s3 s4) (gI s2 s3 s4) s3) (prI (rightB s2 s3 s4) (gI s2 s3 s4) s4) = primeB s2 s3 s4 := rfl
      rw [hq2] at hq
      clear hq2
      generalize prI (rightB s2 s3 s4) (gI s2 s3 s4) s2 = t2 at cP hq
      generalize prI (rightB s2 s3 s4) (gI s2 s3 s4) s3 = t3 at cP hq
      generalize prI (rightB s2 s3 s4) (gI s2 s3 s4) s4 = t4 at cP hq
      cases hpr : primeB s2 s3 s4
      · have HO : Hid (whyV L 0 = faultA whyAt) := hide (by unfold whyV; rw [if_neg (unhide K0), if_neg (unhide K1), if_pos (by rw [unhide HS]; simp [hpr])])
        rw [hpr] at hq
        refine wp_region_quiet_below (by kernel_rfl) (by kernel_rfl) ?_
        repeat (quiet_step (first | (with_reducible exact Calls.regrown_of (unhide cS _)) | (with_reducible exact Calls.regrown_of (unhide cP _))))
        refine wpQuiet_nil ?_
        intro _ hw'
        obtain ⟨⟨dq, osq⟩, hw''⟩ := hw'
        subst hw''
        have hx := below_regrown W1 dq osq
        replace hx := below_call (unhide HB1) hx
        go_wp2_with fail
        go_ret
        exact ⟨by rw [unhide HO]; rfl, hx⟩
      · have K2 : Hid (¬ (smallB (stA L 0).2.1 (stA L 0).2.2.1 (stA L 0).2.2.2 && primeB (stA L 0).2.1 (stA L 0).2.2.1 (stA L 0).2.2.2) = false) := hide (by rw [unhide HS]; simp [hsm, hpr])
        clear hsm
        rw [hpr] at hq
        refine wp_region_quiet_below (by kernel_rfl) (by kernel_rfl) ?_
        repeat (quiet_step (first | (with_reducible exact Calls.regrown_of (unhide cS _)) | (with_reducible exact Calls.regrown_of (unhide cP _))))
        refine wpQuiet_nil ?_
        intro _ hw'
        obtain ⟨⟨dq, osq⟩, hw''⟩ := hw'
        subst hw''
        have hx := below_regrown W1 dq osq
        have hn2 := (unhide HN1).kept (World.block_lt_of_cell? _ _ (unhide HN1).1) hx
        have hb2 := below_call (unhide HB1) hx
        generalize grow (redrawn W1 dq) osq = W2 at hx hn2 hb2 ⊢
        have HB2 := hide hb2
        clear hx hb2 r1 r2 r3 hq cS cP HN1 HB1
        obtain ⟨_, c1, c2, c3⟩ := hn2
        simp only [Nat.zero_add] at c1 c2 c3
        go_wp2_with fail
        refine (isTaken_any L 0 s2 s3 s4 _ _ _ hi ((unhide HA).kept (unhide HB2))).mono ?_
        rintro e w3 ⟨rfl, hx⟩
        replace hx := below_call (unhide HB2) hx
        clear HB2 c1 c2 c3
        have ht : takenB L (0, s2, s3, s4) 0 = takenB L (stA L 0) 0 := by rw [unhide HS]; rfl
        rw [ht]
        clear ht
        cases htk : takenB L (stA L 0) 0
        · have HO : Hid (whyV L 0 = .nilIface) := hide (by unfold whyV; rw [if_neg (unhide K0), if_neg (unhide K1), if_neg (unhide K2), if_neg (by rw [htk]; simp)])
          go_wp2_with fail
          go_ret
          exact ⟨by rw [unhide HO]; rfl, hx⟩
        · have HO : Hid (whyV L 0 = faultA whyTwo) := hide (by unfold whyV; rw [if_neg (unhide K0), if_neg (unhide K1), if_neg (unhide K2), if_pos htk])
          go_wp2_with fail
          go_ret
          exact ⟨by rw [unhide HO]; rfl, hx⟩
  · obtain ⟨j, rfl⟩ : ∃ j, i = j + 1 := ⟨i - 1, by omega⟩
    obtain ⟨⟨p1, p2, p3, p4⟩, hp⟩ : ∃ s, stA L j = s := ⟨_, rfl⟩
    have hle : p1 < s1 := by have hu := unhide K1; unfold upB at hu; rw [unhide HS] at hu; simp [hp] at hu; omega
    rcases unhide HA with h0 | ⟨b, o, rfl, hb, hc⟩
    · omega
    have hst := (hc j (by omega)).kept hb (unhide HB)
    rw [hp] at hst
    obtain ⟨c0, _, _, _⟩ := hst
    have hj1 : (j : Int) + 1 - 1 = (j : Int) := by omega
    have hj2 : (0 : Int) < (j : Int) + 1 := by omega
    clear hp hc
    go_enter Tryd.func120, Tryd.ntmps120
    go_wp2_with fail
    go_quiet (fail)
    go_wp2_with fail
    clear c0
    have hx := below_call (unhide HB) (below_drewN (w.alloc (.cells #[.int .i64 s1, .int .i64 s2, .int .i64 s3, .int .i64 s4] 131)) nq)
    have hn' := (unhide HN).kept (by simp) (below_drewN _ nq)
    generalize (w.alloc (.cells #[.int .i64 s1, .int .i64 s2, .int .i64 s3, .int .i64 s4] 131)).drewN nq = W1 at hx hn' ⊢
    have HB1 := hide hx
    have HN1 := hide hn'
    clear hx hn' HB HN
    obtain ⟨_, c1, c2, c3⟩ := unhide HN1
    simp only [Nat.zero_add] at c1 c2 c3
    have r1 := cell_regrown c1
    have r2 := cell_regrown c2
    have r3 := cell_regrown c3
    clear c1 c2 c3
    cases hsm : smallB s2 s3 s4
    · have HO : Hid (whyV L (j + 1) = faultA whyAt) := hide (by unfold whyV; rw [if_neg (unhide K0), if_neg (unhide K1), if_pos (by rw [unhide HS]; simp [hsm])])
      have cS : Hid (∀ W : World, Calls Tryd.prog 124 #[.agg #[.int .i64 s2, .int .i64 s3, .int .i64 s4]] W fun e w' => e = .returned (.bool false) ∧ Below W.heap.size W w') := hide (fun W => (isSmall_any s2 s3 s4 W).mono fun e w' h => ⟨by rw [h.1, hsm], h.2⟩)
      clear hsm
      refine wp_region_quiet_below (by kernel_rfl) (by kernel_rfl) ?_
      repeat (quiet_step (first | (with_reducible exact Calls.regrown_of (unhide cS _))))
      refine wpQuiet_nil ?_
      intro _ hw'
      obtain ⟨⟨dq, osq⟩, hw''⟩ := hw'
      subst hw''
      have hx := below_call (unhide HB1) (below_regrown W1 dq osq)
      go_wp2_with fail
      go_ret
      exact ⟨by rw [unhide HO]; rfl, hx⟩
    · have cS : Hid (∀ W : World, Calls Tryd.prog 124 #[.agg #[.int .i64 s2, .int .i64 s3, .int .i64 s4]] W fun e w' => e = .returned (.bool true) ∧ Below W.heap.size W w') := hide (fun W => (isSmall_any s2 s3 s4 W).mono fun e w' h => ⟨by rw [h.1, hsm], h.2⟩)
      have cP := hide (fun W => prime_any s2 s3 s4 W)
      have hq := fun W => neq_vec s2 s3 s4 (prI (rightB s2 s3 s4) (gI s2 s3 s4) s2) (prI (rightB s2 s3 s4) (gI s2 s3 s4) s3) (prI (rightB s2 s3 s4) (gI s2 s3 s4) s4) W
      have hq2 : eqB s2 s3 s4 (prI (rightB s2 s3 s4) (gI s2 s3 s4) s2) (prI (rightB s2 s3 s4) (gI s2 s3 s4) s3) (prI (rightB s2 s3 s4) (gI s2 s3 s4) s4) = primeB s2 s3 s4 := rfl
      rw [hq2] at hq
      clear hq2
      generalize prI (rightB s2 s3 s4) (gI s2 s3 s4) s2 = t2 at cP hq
      generalize prI (rightB s2 s3 s4) (gI s2 s3 s4) s3 = t3 at cP hq
      generalize prI (rightB s2 s3 s4) (gI s2 s3 s4) s4 = t4 at cP hq
      cases hpr : primeB s2 s3 s4
      · have HO : Hid (whyV L (j + 1) = faultA whyAt) := hide (by unfold whyV; rw [if_neg (unhide K0), if_neg (unhide K1), if_pos (by rw [unhide HS]; simp [hpr])])
        rw [hpr] at hq
        refine wp_region_quiet_below (by kernel_rfl) (by kernel_rfl) ?_
        repeat (quiet_step (first | (with_reducible exact Calls.regrown_of (unhide cS _)) | (with_reducible exact Calls.regrown_of (unhide cP _))))
        refine wpQuiet_nil ?_
        intro _ hw'
        obtain ⟨⟨dq, osq⟩, hw''⟩ := hw'
        subst hw''
        have hx := below_regrown W1 dq osq
        replace hx := below_call (unhide HB1) hx
        go_wp2_with fail
        go_ret
        exact ⟨by rw [unhide HO]; rfl, hx⟩
      · have K2 : Hid (¬ (smallB (stA L (j + 1)).2.1 (stA L (j + 1)).2.2.1 (stA L (j + 1)).2.2.2 && primeB (stA L (j + 1)).2.1 (stA L (j + 1)).2.2.1 (stA L (j + 1)).2.2.2) = false) := hide (by rw [unhide HS]; simp [hsm, hpr])
        clear hsm
        rw [hpr] at hq
        refine wp_region_quiet_below (by kernel_rfl) (by kernel_rfl) ?_
        repeat (quiet_step (first | (with_reducible exact Calls.regrown_of (unhide cS _)) | (with_reducible exact Calls.regrown_of (unhide cP _))))
        refine wpQuiet_nil ?_
        intro _ hw'
        obtain ⟨⟨dq, osq⟩, hw''⟩ := hw'
        subst hw''
        have hx := below_regrown W1 dq osq
        have hn2 := (unhide HN1).kept (World.block_lt_of_cell? _ _ (unhide HN1).1) hx
        have hb2 := below_call (unhide HB1) hx
        generalize grow (redrawn W1 dq) osq = W2 at hx hn2 hb2 ⊢
        have HB2 := hide hb2
        clear hx hb2 r1 r2 r3 hq cS cP HN1 HB1
        obtain ⟨_, c1, c2, c3⟩ := hn2
        simp only [Nat.zero_add] at c1 c2 c3
        go_wp2_with fail
        refine (isTaken_any L (j + 1) s2 s3 s4 _ _ _ hi ((unhide HA).kept (unhide HB2))).mono ?_
        rintro e w3 ⟨rfl, hx⟩
        replace hx := below_call (unhide HB2) hx
        clear HB2 c1 c2 c3
        have ht : takenB L (0, s2, s3, s4) (j + 1) = takenB L (stA L (j + 1)) (j + 1) := by rw [unhide HS]; rfl
        rw [ht]
        clear ht
        cases htk : takenB L (stA L (j + 1)) (j + 1)
        · have HO : Hid (whyV L (j + 1) = .nilIface) := hide (by unfold whyV; rw [if_neg (unhide K0), if_neg (unhide K1), if_neg (unhide K2), if_neg (by rw [htk]; simp)])
          go_wp2_with fail
          go_ret
          exact ⟨by rw [unhide HO]; rfl, hx⟩
        · have HO : Hid (whyV L (j + 1) = faultA whyTwo) := hide (by unfold whyV; rw [if_neg (unhide K0), if_neg (unhide K1), if_neg (unhide K2), if_pos htk])
          go_wp2_with fail
          go_ret
          exact ⟨by rw [unhide HO]; rfl, hx⟩
end Go.Proofs.YtnffnjljjecphaaDoor

namespace Go.Proofs.YtnffnjljjecphaaDoor
open Go.RowKit Go.Sort
set_option linter.unusedVariables false

/-- what the program tells of a whole list -/
def whySky (L : List St) : Value := if 12 < L.length then faultA whyMany else match (List.range L.length).find? (fun i => !okAt L i) with | none => .nilIface | some i => whyV L i
theorem whySky_ok {L : List St} (hl : L.length ≤ 12) (h : okTo L L.length) : whySky L = .nilIface := by
  unfold whySky
  rw [if_neg (by omega)]
  have : (List.range L.length).find? (fun i => !okAt L i) = none := by
    rw [List.find?_eq_none]
    intro j hj
    rw [h j (List.mem_range.1 hj)]
    simp
  rw [this]
theorem whySky_at {L : List St} {k : Nat} (hl : L.length ≤ 12) (hk : k < L.length) (h : okTo L k) (h1 : okAt L k = false) : whySky L = whyV L k := by
  unfold whySky
  rw [if_neg (by omega)]
  have : (List.range L.length).find? (fun i => !okAt L i) = some k := by
    rw [List.find?_range_eq_some]
    refine ⟨by rw [h1]; rfl, List.mem_range.2 hk, fun j hj => ?_⟩
    rw [h j hj]
    rfl
  rw [this]
theorem whySky_no {L : List St} (h : skyB L = false) : ∃ why, whySky L = faultA why := by
  unfold whySky
  split
  · exact ⟨_, rfl⟩
  · rename_i hl
    cases hf : (List.range L.length).find? (fun i => !okAt L i) with
    | none =>
      exfalso
      rw [List.find?_eq_none] at hf
      have : skyB L = true := sky_yes (by omega) (fun j hj => by have := hf j (List.mem_range.2 hj); simpa using this)
      rw [h] at this
      cases this
    | some i =>
      rw [List.find?_range_eq_some] at hf
      exact whyV_no (by simpa using hf.1)
theorem whySky_yes {L : List St} (h : skyB L = true) : whySky L = .nilIface := whySky_ok (sky_ok h).1 (sky_ok h).2

set_option maxHeartbeats 2000000 in
set_option maxRecDepth 100000 in
theorem whyNoSky_any (L : List St) (a : Option Addr) (c : Nat) (w : World) (hn : L.length ≤ 1048576) (hcap : L.length ≤ c) (hc9 : c ≤ 9223372036854775807) (hS : Stars w a L L.length) :
    Calls Tryd.prog 110 #[.slice a L.length c] w fun e w' => e = .returned (whySky L) ∧ Below w.heap.size w w' := by
  obtain ⟨n, hnl⟩ : ∃ n, L.length = n := ⟨_, rfl⟩
  rw [hnl] at hn hcap hS ⊢
  have HL := hide hnl
  clear hnl
  by_cases h12 : 12 < n
  · have h12' : (12 : Int) < (n : Int) := by omega
    have HO : Hid (whySky L = faultA whyMany) := hide (by unfold whySky; rw [if_pos (by rw [unhide HL]; exact h12)])
    clear hS
    go_enter Tryd.func110, Tryd.ntmps110
    go_wp2
    go_ret
    exact ⟨by rw [unhide HO]; rfl, Below.refl _ _⟩
  have h12' : ¬ (12 : Int) < (n : Int) := by omega
  rcases hS with rfl | ⟨b, o, rfl, hb, hc⟩
  · have HO : Hid (whySky L = .nilIface) := hide (whySky_ok (by rw [unhide HL]; omega) (by rw [unhide HL]; intro j hj; omega))
    go_enter Tryd.func110, Tryd.ntmps110
    go_wp2_with fail
    refine wp_loop_rounds 1 ?_
    rw [rounds_succ]
    go_wp2_with fail
    go_ret
    exact ⟨by rw [unhide HO]; rfl, Below.refl _ _⟩
  have HC := hide hc
  have HS : Hid (Stars w (some ⟨b, o, none⟩) L n) := hide (.inr ⟨b, o, rfl, hb, hc⟩)
  clear hc
  go_enter Tryd.func110, Tryd.ntmps110
  go_wp2_with fail
  go_loopw [13] (fun i wr => ∃ k : Nat, k ≤ n ∧ i = .int .i64 k ∧ Hid (okTo L k) ∧ Hid (Below w.heap.size w wr)) (fun i _ => n - (intOf i).toNat)
  case atStart => exact ⟨0, by omega, rfl, hide (fun j hj => absurd hj (Nat.not_lt_zero _)), hide (Below.refl _ _)⟩
  case round =>
    obtain ⟨k, hk, rfl, HF, HB⟩ := hrel
    by_cases hkn : k < n
    · obtain ⟨⟨s1, s2, s3, s4⟩, hs⟩ : ∃ s, stA L k = s := ⟨_, rfl⟩
      have hst := ((unhide HC) k hkn).kept hb (unhide HB)
      rw [hs] at hst
      obtain ⟨c0, c1, c2, c3⟩ := hst
      have HT := hide hs
      clear hs
      have B1 := hide ((unhide HB).alloc (unhide HB).size (.cells #[.int .i64 s1, .int .i64 s2, .int .i64 s3, .int .i64 s4] 131))
      have N1 := hide (starAt_new wr (s1, s2, s3, s4) 131)
      go_wp2_with fail
      clear c0 c1 c2 c3
      have hb1 := unhide B1
      have hn1 := unhide N1
      generalize hwe : wr.alloc (.cells #[.int .i64 s1, .int .i64 s2, .int .i64 s3, .int .i64 s4] 131) = W1 at hb1 hn1 ⊢
      have HB1 := hide hb1
      clear hwe hb1 B1 N1
      obtain ⟨c0, c1, c2, c3⟩ := hn1
      simp only [Nat.zero_add] at c0 c1 c2 c3
      have r0 := cell_regrown c0
      have r1 := cell_regrown c1
      have r2 := cell_regrown c2
      have r3 := cell_regrown c3
      clear c0 c1 c2 c3
      have cW := hide (fun (W : World) (hW : Stars W (some ⟨b, o, none⟩) L k) => whyNoStar_any L k s1 s2 s3 s4 (some ⟨b, o, none⟩) k W (by omega) (unhide HT) hW)
      have HSk := hide (((unhide HS).less (Nat.le_of_lt hkn)).kept (unhide HB1))
      have hkc : (k : Int) ≤ (c : Int) := by omega
      refine wp_region_quiet_below (by kernel_rfl) (by kernel_rfl) ?_
      repeat (quiet_step (first | (with_reducible exact Calls.regrown_of (unhide cW _ ((unhide HSk).kept (below_regrown _ _ _))))))
      refine wpQuiet_nil ?_
      intro _ hw'
      obtain ⟨⟨dq, osq⟩, hw''⟩ := hw'
      subst hw''
      have hx := below_call (unhide HB1) (below_regrown W1 dq osq)
      generalize grow (redrawn W1 dq) osq = W2 at hx ⊢
      have HB2 := hide hx
      clear hx HB1 HB cW HSk r0 r1 r2 r3
      cases hok : okAt L k
      · obtain ⟨why, hwhy⟩ := whyV_no hok
        have HO := hide (whySky_at (by rw [unhide HL]; omega) (by rw [unhide HL]; exact hkn) (unhide HF) hok)
        rw [hwhy] at HO ⊢
        unfold faultA at HO ⊢
        clear hok hwhy
        go_wp2_with fail
        go_ret
        exact ⟨by rw [unhide HO]; rfl, unhide HB2⟩
      · rw [whyV_ok hok]
        have HF2 := hide (ok_step (unhide HF) hok)
        clear hok
        go_wp2_with fail
        go_roundw
        case rel => exact ⟨k + 1, by omega, by go_num, HF2, HB2⟩
        case measure => simp [intOf]; omega
    · have hkn' : k = n := by omega
      subst hkn'
      have HO := hide (whySky_ok (L := L) (by rw [unhide HL]; omega) (by rw [unhide HL]; exact unhide HF))
      go_wp2_with fail
      go_ret
      exact ⟨by rw [unhide HO]; rfl, unhide HB⟩

set_option maxHeartbeats 1000000 in
set_option maxRecDepth 100000 in
theorem skyRight_any (L : List St) (a : Option Addr) (c : Nat) (p : Addr) (w : World) (hn : L.length ≤ 1048576) (hcap : L.length ≤ c) (hc9 : c ≤ 9223372036854775807) (hS : Stars w a L L.length) (hE : ErrSky p w) :
    Calls Tryd.prog 93 #[.slice a L.length c] w fun e w' => e = .returned (.bool (skyB L)) ∧ Below w.heap.size w w' := by
  have r0 := cell_regrown (show w.cell? ⟨1, 0, none⟩ = some (.iface 182 (.pointer (some p))) from hE)
  have HS := hide hS
  have HE := hide hE
  clear hS hE
  cases hk : skyB L
  · obtain ⟨why, hwhy⟩ := whySky_no hk
    have cW : Hid (∀ W : World, Stars W a L L.length → Calls Tryd.prog 110 #[.slice a L.length c] W fun e w' => e = .returned (.iface 165 (.agg #[.string why])) ∧ Below W.heap.size W w') := hide (fun W hW => (whyNoSky_any L a c W hn hcap hc9 hW).mono fun e w' h => ⟨by rw [h.1, hwhy]; rfl, h.2⟩)
    have cI := hide (fun (W : World) (hW : ErrSky p W) => is_fault why p W hW)
    clear hwhy hk
    go_enter Tryd.func93, Tryd.ntmps93
    go_wp2_with fail
    refine wp_region_quiet_below (by kernel_rfl) (by kernel_rfl) ?_
    repeat (quiet_step (first | (with_reducible exact Calls.regrown_of (unhide cW _ ((unhide HS).kept (below_regrown _ _ _)))) | (with_reducible exact Calls.regrown_of (unhide cI _ ((unhide HE).kept (below_regrown _ _ _))))))
    refine wpQuiet_nil ?_
    intro _ hw'
    obtain ⟨⟨dq, osq⟩, hw''⟩ := hw'
    subst hw''
    have hx := below_regrown w dq osq
    go_wp2_with fail
    go_ret
    exact ⟨rfl, hx⟩
  · have cW : Hid (∀ W : World, Stars W a L L.length → Calls Tryd.prog 110 #[.slice a L.length c] W fun e w' => e = .returned .nilIface ∧ Below W.heap.size W w') := hide (fun W hW => (whyNoSky_any L a c W hn hcap hc9 hW).mono fun e w' h => ⟨by rw [h.1, whySky_yes hk], h.2⟩)
    have cI : Hid (∀ W : World, Calls Tryd.prog 109 #[.nilIface, .iface 182 (.pointer (some p))] W fun e w' => e = .returned (.bool false) ∧ Below W.heap.size W w') := hide (fun W => (is_nil p W).mono fun e w' h => ⟨h.1, by rw [h.2]; exact Below.refl _ _⟩)
    clear hk
    go_enter Tryd.func93, Tryd.ntmps93
    go_wp2_with fail
    refine wp_region_quiet_below (by kernel_rfl) (by kernel_rfl) ?_
    repeat (quiet_step (first | (with_reducible exact Calls.regrown_of (unhide cW _ ((unhide HS).kept (below_regrown _ _ _)))) | (with_reducible exact Calls.regrown_of (unhide cI _))))
    refine wpQuiet_nil ?_
    intro _ hw'
    obtain ⟨⟨dq, osq⟩, hw''⟩ := hw'
    subst hw''
    have hx := below_regrown w dq osq
    go_wp2_with fail
    go_ret
    exact ⟨rfl, hx⟩
end Go.Proofs.YtnffnjljjecphaaDoor
