/- The specification's GetText, and the comparing of two answers. -/
import Derived.Test.YtcoibamfgcdbnacDoorGetText
namespace Go.Proofs.YtcoibamfgcdbnacDoor
open Go.RowKit

theorem scan_err {s : ByteArray} {p : Nat} : ∀ (k i u : Nat) (c : Int), scan s p k i u = .error c → c = 3 ∨ c = 4
  | 0, i, u, c, h => by simp [scan] at h; omega
  | k + 1, i, u, c, h => by
    rw [scan] at h
    split at h
    · simp at h; omega
    · split at h
      · simp at h; omega
      · split at h
        · split at h
          · simp at h; omega
          · simp at h
        · exact scan_err k (i + 1) _ c h

theorem textOut_of (s : ByteArray) (p : Int) (hs : s.size ≤ 8000) : ∃ (n q c : Int), getRes s p = .agg #[.int .i64 n, .int .i64 q, .int .i64 c] ∧
    ((c ≠ 0 ∧ textRes s p = .error c) ∨ (c = 0 ∧ -9223372036854775808 ≤ n ∧ n ≤ 9223372036854775807 ∧ 0 ≤ q ∧ q ≤ s.size ∧
      textRes s p = if n < 0 ∨ 8000 < n then .error 3 else if (s.size : Int) - q < n then .error 4 else .ok (s.extract q.toNat (q.toNat + n.toNat), q.toNat + n.toNat))) := by
  rw [getRes, if_neg (by omega)]
  cases hr : readRes s p with
  | error c =>
    refine ⟨0, 0, c, rfl, .inl ⟨?_, by unfold textRes; rw [hr]⟩⟩
    unfold readRes at hr
    split at hr
    · simp at hr; omega
    · have := scan_err 10 0 0 c hr; omega
  | ok x =>
    have hb := readRes_ok hr
    have hur := unf_range x.1 hb.2
    exact ⟨unf x.1, (x.2 : Int), 0, rfl, .inr ⟨rfl, hur.1, hur.2, by omega, by omega, by unfold textRes; rw [hr]; simp⟩⟩

set_option maxHeartbeats 1000000 in
theorem specGetText_small (s : ByteArray) (p : Int) (w : World) (hs : s.size ≤ 8000) (h1 : p ≤ 9223372036854775807) :
    Calls Tryd.prog 8 #[.string s, .int .i64 p] w fun e w' => e = .returned (textOut (textRes s p)) ∧ Below w.heap.size w w' := by
  obtain ⟨n, q, c, hv, hr⟩ := textOut_of s p hs
  have HC := hide (fun w => (by have := specGetNum_any s p w (by omega) h1; rw [hv] at this; exact this : Calls Tryd.prog 5 #[.string s, .int .i64 p] w fun e w' => e = .returned (.agg #[.int .i64 n, .int .i64 q, .int .i64 c]) ∧ Below w.heap.size w w'))
  clear hv
  rcases hr with ⟨hc, hr⟩ | ⟨rfl, hn1, hn2, hq0, hq1, hr⟩
  · have HR := hide hr
    have hcb : (c != 0) = true := by rw [bne_iff_ne]; exact hc
    clear hr hc
    go_enter Tryd.func8, Tryd.ntmps8
    go_wp2_with fail
    refine (unhide HC _).mono ?_
    rintro e w1 ⟨rfl, hb1⟩
    obtain ⟨c0, c1, c2, f0, f1, f2, hz, hB⟩ := slot3 hb1
    clear hb1
    go_wp2
    exact bodyPost_ret (v := .agg #[.string ⟨#[]⟩, .int .i64 0, .int .i64 c]) (by simp [results, Tryd.results8, go_sem, c0, c1, c2, hz]) rfl ⟨by rw [unhide HR]; rfl, belowA (((hB.setCell (by simp) _).setCell (by simp) _).setCell (by simp) _) (Nat.le_refl _) _⟩
  · by_cases hn : n < 0 ∨ 8000 < n
    · have HR := hide (show textRes s p = .error 3 by rw [hr, if_pos hn])
      have hn2 : n < 0 ∨ (0 ≤ n ∧ 8000 < n) := by omega
      clear hr hn
      rcases hn2 with hn0 | hn0
      all_goals
        go_enter Tryd.func8, Tryd.ntmps8
        go_wp2_with fail
        refine (unhide HC _).mono ?_
        rintro e w1 ⟨rfl, hb1⟩
        obtain ⟨c0, c1, c2, f0, f1, f2, hz, hB⟩ := slot3 hb1
        clear hb1
        go_wp2
        exact bodyPost_ret (v := .agg #[.string ⟨#[]⟩, .int .i64 0, .int .i64 3]) (by simp [results, Tryd.results8, go_sem, c0, c1, c2, hz]) rfl ⟨by rw [unhide HR]; rfl, belowA (((hB.setCell (by simp) _).setCell (by simp) _).setCell (by simp) _) (Nat.le_refl _) _⟩
    · have hn0 : 0 ≤ n := by omega
      have hn8 : n ≤ 8000 := by omega
      by_cases hsh : (s.size : Int) - q < n
      · have HR := hide (show textRes s p = .error 4 by rw [hr, if_neg hn, if_pos hsh])
        have hsh' : (s.size : Int) - n < q := by omega
        clear hr hn hsh
        go_enter Tryd.func8, Tryd.ntmps8
        go_wp2_with fail
        refine (unhide HC _).mono ?_
        rintro e w1 ⟨rfl, hb1⟩
        obtain ⟨c0, c1, c2, f0, f1, f2, hz, hB⟩ := slot3 hb1
        clear hb1
        go_wp2
        exact bodyPost_ret (v := .agg #[.string ⟨#[]⟩, .int .i64 0, .int .i64 4]) (by simp [results, Tryd.results8, go_sem, c0, c1, c2, hz]) rfl ⟨by rw [unhide HR]; rfl, belowA (((hB.setCell (by simp) _).setCell (by simp) _).setCell (by simp) _) (Nat.le_refl _) _⟩
      · obtain ⟨m, rfl⟩ : ∃ m : Nat, n = (m : Int) := ⟨n.toNat, by omega⟩
        obtain ⟨b, rfl⟩ : ∃ b : Nat, q = (b : Int) := ⟨q.toNat, by omega⟩
        have HR := hide (show textRes s p = .ok (s.extract b (b + m), b + m) by rw [hr, if_neg hn, if_neg hsh]; simp)
        have hsh' : (b : Int) ≤ (s.size : Int) - (m : Int) := by omega
        have hqm : b + m ≤ s.size := by omega
        have hqi : (b : Int) ≤ (b : Int) + (m : Int) ∧ (b : Int) + (m : Int) ≤ (s.size : Int) := by omega
        clear hr hn hsh
        go_enter Tryd.func8, Tryd.ntmps8
        go_wp2_with fail
        refine (unhide HC _).mono ?_
        rintro e w1 ⟨rfl, hb1⟩
        obtain ⟨c0, c1, c2, f0, f1, f2, hz, hB⟩ := slot3 hb1
        clear hb1
        go_wp2
        go_region
        go_wp2
        exact bodyPost_ret (v := .agg #[.string (s.extract b (b + m)), .int .i64 ((b : Int) + (m : Int)), .int .i64 0]) (by simp [results, Tryd.results8, go_sem, c0, c1, c2, hz]) rfl ⟨by rw [unhide HR]; simp [textOut], (belowA (((hB.setCell (by simp) _).setCell (by simp) _).setCell (by simp) _) (Nat.le_refl _) _).drew⟩

set_option maxHeartbeats 1000000 in
theorem specGetText_any (s : ByteArray) (p : Int) (w : World) (hs : s.size ≤ 1048576) (h1 : p ≤ 9223372036854775807) :
    Calls Tryd.prog 8 #[.string s, .int .i64 p] w fun e w' => e = .returned (getTextRes s p) ∧ Below w.heap.size w w' := by
  by_cases h8 : 8000 < s.size
  · rw [getTextRes, if_pos h8]
    have HC := hide (fun w => (by have := specGetNum_any s p w hs h1; rw [getRes, if_pos h8] at this; exact this : Calls Tryd.prog 5 #[.string s, .int .i64 p] w fun e w' => e = .returned (.agg #[.int .i64 0, .int .i64 0, .int .i64 2]) ∧ Below w.heap.size w w'))
    go_enter Tryd.func8, Tryd.ntmps8
    go_wp2_with fail
    refine (unhide HC _).mono ?_
    rintro e w1 ⟨rfl, hb1⟩
    obtain ⟨c0, c1, c2, f0, f1, f2, hz, hB⟩ := slot3 hb1
    clear hb1
    go_wp2
    exact bodyPost_ret (v := .agg #[.string ⟨#[]⟩, .int .i64 0, .int .i64 2]) (by simp [results, Tryd.results8, go_sem, c0, c1, c2, hz]) rfl ⟨rfl, belowA (((hB.setCell (by simp) _).setCell (by simp) _).setCell (by simp) _) (Nat.le_refl _) _⟩
  · rw [getTextRes, if_neg h8]
    exact specGetText_small s p w (by omega) h1

set_option maxHeartbeats 400000 in
theorem eqTextOut_same (t : ByteArray) (a c : Int) (w : World) :
    Calls Tryd.prog 10 #[.agg #[.string t, .int .i64 a, .int .i64 c], .agg #[.string t, .int .i64 a, .int .i64 c]] w fun e w' => e = .returned (.bool true) ∧ Below w.heap.size w w' := by
  go_enter Tryd.func10, Tryd.ntmps10
  go_wp2
  go_ret
  exact ⟨rfl, ((Below.refl _ _).alloc (Nat.le_refl _) _).alloc (by simp) _⟩

theorem getTextRes_form (s : ByteArray) (p : Int) : ∃ (t : ByteArray) (b c : Int), getTextRes s p = .agg #[.string t, .int .i64 b, .int .i64 c] := by
  unfold getTextRes
  split
  · exact ⟨_, _, _, rfl⟩
  · cases textRes s p with
    | error c => exact ⟨_, _, _, rfl⟩
    | ok x => exact ⟨_, _, _, rfl⟩
end Go.Proofs.YtcoibamfgcdbnacDoor
