/- GetText: the program's and the specification's functions answer the same, told by 'textRes'. -/
import Derived.Test.YtcoibamfgcdbnaaDoorGetNum
import Derived.Test.YtcoibamfgcdbnaaDoorFresh
import Derived.RegionTactic
import Derived.BigRegion
namespace Go.Proofs.YtcoibamfgcdbnaaDoor
open Go.RowKit

theorem scan_ok {s : ByteArray} {p : Nat} : ∀ (k i u : Nat) (x : Nat × Nat), i + k ≤ 10 → u < 2 ^ (7 * i) → scan s p k i u = .ok x → x.2 ≤ s.size ∧ x.1 < 18446744073709551616
  | 0, i, u, x, _, _, h => by simp [scan] at h
  | k + 1, i, u, x, hik, hu, h => by
    rw [scan] at h
    split at h
    · simp at h
    · rename_i h1
      split at h
      · simp at h
      · rename_i h2
        split at h
        · split at h
          · simp at h
          · simp at h
            subst h
            exact ⟨by simp; omega, step_lt64 u _ i (by omega) hu (by omega)⟩
        · rename_i h3
          have h9 : i < 9 := by omega
          exact scan_ok k (i + 1) _ x (by omega) (step_lt_pow u _ i hu) h
theorem readRes_ok {s : ByteArray} {p : Int} {x : Nat × Nat} (h : readRes s p = .ok x) : x.2 ≤ s.size ∧ x.1 < 18446744073709551616 := by
  unfold readRes at h
  split at h
  · simp at h
  · exact scan_ok 10 0 0 x (by omega) (by simp) h

/-- what is read as a text -/
def textRes (s : ByteArray) (p : Int) : Except Int (ByteArray × Nat) :=
  match readRes s p with
  | .error c => .error c
  | .ok x => if unf x.1 < 0 ∨ 8000 < unf x.1 then .error 3 else if (s.size : Int) - (x.2 : Int) < unf x.1 then .error 4 else .ok (s.extract x.2 (x.2 + (unf x.1).toNat), x.2 + (unf x.1).toNat)
def textTup : Except Int (ByteArray × Nat) → Value
  | .error c => .tuple #[.string ⟨#[]⟩, .int .i64 0, .iface 46 (.agg #[.int .i64 c])]
  | .ok x => .tuple #[.string x.1, .int .i64 (x.2 : Int), .nilIface]
def textOut : Except Int (ByteArray × Nat) → Value
  | .error c => .agg #[.string ⟨#[]⟩, .int .i64 0, .int .i64 c]
  | .ok x => .agg #[.string x.1, .int .i64 (x.2 : Int), .int .i64 0]

set_option maxHeartbeats 1000000 in
theorem readText_any (s : ByteArray) (p : Int) (w : World) (hs : s.size ≤ 8000) (h1 : p ≤ 9223372036854775807) :
    Calls Tryd.prog 22 #[.string s, .int .i64 p] w fun e w' => e = .returned (textTup (textRes s p)) ∧ Below w.heap.size w w' := by
  cases hr : readRes s p with
  | error c =>
    have HC := hide (fun w => (by have := readNum_all s p w hs h1; rw [hr] at this; exact this : Calls Tryd.prog 16 #[.string s, .int .i64 p] w fun e w' => e = .returned (.tuple #[.int .i64 0, .int .i64 0, .iface 46 (.agg #[.int .i64 c])]) ∧ w' = w))
    have HT := hide (show textRes s p = .error c by unfold textRes; rw [hr])
    clear hr
    go_enter Tryd.func22, Tryd.ntmps22
    go_wp2_with fail
    refine (unhide HC _).mono ?_
    rintro e w' ⟨rfl, rfl⟩
    go_wp2
    go_ret3
    exact ⟨by rw [unhide HT]; rfl, Below.refl _ _⟩
  | ok x =>
    have hb := readRes_ok hr
    have hur := unf_range x.1 hb.2
    have HC := hide (fun w => (by have := readNum_all s p w hs h1; rw [hr] at this; exact this : Calls Tryd.prog 16 #[.string s, .int .i64 p] w fun e w' => e = .returned (.tuple #[.int .i64 (unf x.1), .int .i64 (x.2 : Int), .nilIface]) ∧ w' = w))
    have HT := hide (show textRes s p = if unf x.1 < 0 ∨ 8000 < unf x.1 then .error 3 else if (s.size : Int) - (x.2 : Int) < unf x.1 then .error 4 else .ok (s.extract x.2 (x.2 + (unf x.1).toNat), x.2 + (unf x.1).toNat) by unfold textRes; rw [hr])
    have hq := hb.1
    clear hr hb
    generalize unf x.1 = n at *
    generalize x.2 = q at *
    by_cases hn : n < 0 ∨ 8000 < n
    · have HT2 := hide (show textRes s p = .error 3 by rw [unhide HT, if_pos hn])
      have hn2 : n < 0 ∨ (0 ≤ n ∧ 8000 < n) := by omega
      rcases hn2 with hn0 | hn0
      all_goals
        clear hn HT
        go_enter Tryd.func22, Tryd.ntmps22
        go_wp2_with fail
        refine (unhide HC _).mono ?_
        rintro e w' ⟨rfl, rfl⟩
        go_wp2
        go_ret3
        exact ⟨by rw [unhide HT2]; rfl, Below.refl _ _⟩
    · by_cases hsh : (s.size : Int) - (q : Int) < n
      · have HT2 := hide (show textRes s p = .error 4 by rw [unhide HT, if_neg hn, if_pos hsh])
        have hn0 : 0 ≤ n := by omega
        have hn8 : n ≤ 8000 := by omega
        clear hn HT hur
        go_enter Tryd.func22, Tryd.ntmps22
        go_wp2_with fail
        refine (unhide HC _).mono ?_
        rintro e w' ⟨rfl, rfl⟩
        go_wp2
        go_ret3
        exact ⟨by rw [unhide HT2]; rfl, Below.refl _ _⟩
      · have HT2 := hide (show textRes s p = .ok (s.extract q (q + n.toNat), q + n.toNat) by rw [unhide HT, if_neg hn, if_neg hsh])
        obtain ⟨m, rfl⟩ : ∃ m : Nat, n = (m : Int) := ⟨n.toNat, by omega⟩
        rw [Int.toNat_natCast] at HT2
        have hm8 : m ≤ 8000 := by omega
        have hqm : q + m ≤ s.size := by omega
        have hqi : (q : Int) ≤ (q : Int) + (m : Int) ∧ (q : Int) + (m : Int) ≤ (s.size : Int) := by omega
        clear hn HT hur hsh
        go_enter Tryd.func22, Tryd.ntmps22
        go_wp2_with fail
        refine (unhide HC _).mono ?_
        rintro e w' ⟨rfl, hw⟩
        obtain rfl := hw.symm
        go_wp2_with fail
        refine (freshText_any _ _ (by simp; omega)).mono ?_
        rintro e w1 ⟨rfl, hb1⟩
        go_wp2
        go_ret3
        exact ⟨by rw [unhide HT2]; rfl, hb1⟩

theorem slot3 {w w1 : World} {T : TypeId} {v0 v1 v2 : Value} (hb : Below (w.alloc (.cells #[v0, v1, v2] T)).heap.size (w.alloc (.cells #[v0, v1, v2] T)) w1) :
    w1.cell? ⟨w.heap.size, 0, none⟩ = some v0 ∧ w1.cell? ⟨w.heap.size, 1, none⟩ = some v1 ∧ w1.cell? ⟨w.heap.size, 2, none⟩ = some v2 ∧
    w1.frozen? ⟨w.heap.size, 0, none⟩ = false ∧ w1.frozen? ⟨w.heap.size, 1, none⟩ = false ∧ w1.frozen? ⟨w.heap.size, 2, none⟩ = false ∧ w.heap.size < w1.heap.size ∧ Below w.heap.size w w1 := by
  have hlt : w.heap.size < (w.alloc (.cells #[v0, v1, v2] T)).heap.size := by simp
  refine ⟨?_, ?_, ?_, ?_, ?_, ?_, Nat.lt_of_lt_of_le hlt hb.size, ((Below.refl _ w).alloc (Nat.le_refl _) _).trans (hb.mono (Nat.le_of_lt hlt))⟩
  · rw [hb.cell (p := ⟨w.heap.size, 0, none⟩) hlt]; simp
  · rw [hb.cell (p := ⟨w.heap.size, 1, none⟩) hlt]; simp
  · rw [hb.cell (p := ⟨w.heap.size, 2, none⟩) hlt]; simp
  · rw [hb.frozen (p := ⟨w.heap.size, 0, none⟩) hlt]; simp
  · rw [hb.frozen (p := ⟨w.heap.size, 1, none⟩) hlt]; simp
  · rw [hb.frozen (p := ⟨w.heap.size, 2, none⟩) hlt]; simp

/-- errors.As, the world behind it told by what is kept: nothing below the target's block has turned; the target holds the fault. -/
theorem as_hit_kept (c : Int) (w0 : World) (hg : errLaid w0) :
    Calls Tryd.prog 17 #[.iface 46 (.agg #[.int .i64 c]), .iface 48 (.pointer (some ⟨w0.heap.size, 0, none⟩))] (w0.alloc (.cells #[.int .i64 0] 46))
      fun ev w' => ev = .returned (.bool true) ∧ w'.cell? ⟨w0.heap.size, 0, none⟩ = some (.int .i64 c) ∧ Below w0.heap.size w0 w' := by
  have hc : (w0.alloc (.cells #[.int .i64 0] 46)).cell? ⟨w0.heap.size, 0, none⟩ = some (.int .i64 0) := by simp
  refine (as_hit c w0.heap.size 0 (.int .i64 0) _ (errLaid_alloc hg _) hc (by simp)).mono ?_
  rintro e w' ⟨rfl, rfl⟩
  refine ⟨rfl, ?_, ?_⟩
  · refine World.cell?_setCell_same _ _ _ (?_ : _ = some (.int .i64 0))
    rw [World.cell?_alloc_lt _ _ ⟨w0.heap.size, 0, none⟩ (by simp; omega), World.cell?_alloc_lt _ _ ⟨w0.heap.size, 0, none⟩ (by simp; omega), World.cell?_alloc_lt _ _ ⟨w0.heap.size, 0, none⟩ (by simp; omega), World.cell?_alloc_lt _ _ ⟨w0.heap.size, 0, none⟩ (by simp)]
    exact hc
  · exact (belowA (belowA (belowA (belowA (belowA (Below.refl _ _) (Nat.le_refl _) _) (Nat.le_refl _) _) (Nat.le_refl _) _) (Nat.le_refl _) _) (Nat.le_refl _) _).setCell (Nat.le_refl _) _

def getTextRes (s : ByteArray) (p : Int) : Value := if 8000 < s.size then .agg #[.string ⟨#[]⟩, .int .i64 0, .int .i64 2] else textOut (textRes s p)

set_option maxHeartbeats 1000000 in
theorem implGetText_any (s : ByteArray) (p : Int) (w : World) (hs : s.size ≤ 1048576) (h1 : p ≤ 9223372036854775807) (hg : errLaid w) :
    Calls Tryd.prog 11 #[.string s, .int .i64 p] w fun e w' => e = .returned (getTextRes s p) ∧ Below w.heap.size w w' := by
  by_cases h8 : 8000 < s.size
  · rw [getTextRes, if_pos h8]
    clear hg
    go_enter Tryd.func11, Tryd.ntmps11
    go_wp2
    exact bodyPost_ret (v := .agg #[.string ⟨#[]⟩, .int .i64 0, .int .i64 2]) (by simp [results, Tryd.results11, go_sem]) rfl ⟨rfl, (Below.refl _ _).alloc (Nat.le_refl _) _⟩
  · rw [getTextRes, if_neg h8]
    have h8' : s.size ≤ 8000 := by omega
    have HG := hide hg
    clear hg
    cases hr : textRes s p with
    | error c =>
      have HC := hide (fun w => (by have := readText_any s p w h8' h1; rw [hr] at this; exact this : Calls Tryd.prog 22 #[.string s, .int .i64 p] w fun e w' => e = .returned (.tuple #[.string ⟨#[]⟩, .int .i64 0, .iface 46 (.agg #[.int .i64 c])]) ∧ Below w.heap.size w w'))
      clear hr
      go_enter Tryd.func11, Tryd.ntmps11
      go_wp2_with fail
      refine (unhide HC _).mono ?_
      rintro e w1 ⟨rfl, hb1⟩
      have HG1 := errLaid_below (errLaid_alloc (unhide HG) _) hb1
      have HL := hide HG1
      clear HG1
      go_wp2_with fail
      refine (as_hit_kept c w1 (unhide HL)).mono ?_
      rintro e w2 ⟨rfl, hcc, hb2⟩
      obtain ⟨c0, c1, c2, f0, f1, f2, hz, hB⟩ := slot3 (hb1.trans (hb2.mono hb1.size))
      clear hb1 hb2
      go_wp2
      exact bodyPost_ret (v := .agg #[.string ⟨#[]⟩, .int .i64 0, .int .i64 c]) (by simp [results, Tryd.results11, go_sem, c0, c1, c2]) rfl ⟨rfl, ((hB.setCell (by simp) _).setCell (by simp) _).setCell (by simp) _⟩
    | ok x =>
      have HC := hide (fun w => (by have := readText_any s p w h8' h1; rw [hr] at this; exact this : Calls Tryd.prog 22 #[.string s, .int .i64 p] w fun e w' => e = .returned (.tuple #[.string x.1, .int .i64 (x.2 : Int), .nilIface]) ∧ Below w.heap.size w w'))
      clear hr
      go_enter Tryd.func11, Tryd.ntmps11
      go_wp2_with fail
      refine (unhide HC _).mono ?_
      rintro e w1 ⟨rfl, hb1⟩
      obtain ⟨c0, c1, c2, f0, f1, f2, hz, hB⟩ := slot3 hb1
      clear hb1
      go_wp2_with fail
      refine (as_nil _ _).mono ?_
      rintro e w' ⟨rfl, hw⟩
      have hB2 : Below w.heap.size w w' := by rw [hw]; exact belowA hB (Nat.le_refl _) _
      have d0 : w'.cell? ⟨w.heap.size, 0, none⟩ = some (.string ⟨#[]⟩) := by rw [hw, World.cell?_alloc_lt _ _ ⟨w.heap.size, 0, none⟩ hz]; exact c0
      have d1 : w'.cell? ⟨w.heap.size, 1, none⟩ = some (.int .i64 0) := by rw [hw, World.cell?_alloc_lt _ _ ⟨w.heap.size, 1, none⟩ hz]; exact c1
      have d2 : w'.cell? ⟨w.heap.size, 2, none⟩ = some (.int .i64 0) := by rw [hw, World.cell?_alloc_lt _ _ ⟨w.heap.size, 2, none⟩ hz]; exact c2
      have g0 : w'.frozen? ⟨w.heap.size, 0, none⟩ = false := by rw [hw, World.frozen?_alloc_old _ _ ⟨w.heap.size, 0, none⟩ (Nat.ne_of_lt hz)]; exact f0
      have g1 : w'.frozen? ⟨w.heap.size, 1, none⟩ = false := by rw [hw, World.frozen?_alloc_old _ _ ⟨w.heap.size, 1, none⟩ (Nat.ne_of_lt hz)]; exact f1
      have g2 : w'.frozen? ⟨w.heap.size, 2, none⟩ = false := by rw [hw, World.frozen?_alloc_old _ _ ⟨w.heap.size, 2, none⟩ (Nat.ne_of_lt hz)]; exact f2
      clear c0 c1 c2 f0 f1 f2 hw hB
      go_wp2
      exact bodyPost_ret (v := .agg #[.string x.1, .int .i64 (x.2 : Int), .int .i64 0]) (by simp [results, Tryd.results11, go_sem, d0, d1, d2]) rfl ⟨rfl, ((hB2.setCell (by simp) _).setCell (by simp) _).setCell (by simp) _⟩
end Go.Proofs.YtcoibamfgcdbnaaDoor
