/- A star's four numbers read, one behind the other: the program's. -/
import Derived.Test.YtijpnnooenpjoagDoorSkyF
import Derived.Test.YtijpnnooenpjoagDoorReadNum
namespace Go.Proofs.YtijpnnooenpjoagDoor
open Go.RowKit
set_option linter.unusedVariables false

def scanN (s : ByteArray) (p : Nat) : Option (Int × Nat) := match scan s p 10 0 0 with | .ok x => some (unf x.1, x.2) | .error _ => none
def read4 (s : ByteArray) (p : Nat) : Option (St × Nat) :=
  match scanN s p with
  | none => none
  | some (a, p1) => match scanN s p1 with
    | none => none
    | some (b, p2) => match scanN s p2 with
      | none => none
      | some (c, p3) => match scanN s p3 with
        | none => none
        | some (d, p4) => some ((a, b, c, d), p4)
def starA (x : St) : Value := .agg #[.int .i64 x.1, .int .i64 x.2.1, .int .i64 x.2.2.1, .int .i64 x.2.2.2]
def starRes (r : Option (St × Nat)) (e : Ending) : Prop := match r with
  | none => ∃ why, e = .returned (.tuple #[starA (0, 0, 0, 0), .int .i64 0, faultA why])
  | some (x, q) => e = .returned (.tuple #[starA x, .int .i64 (q : Int), .nilIface])
theorem scan_le {s : ByteArray} {p : Nat} : ∀ (k i u : Nat) {x : Nat × Nat}, scan s p k i u = .ok x → p + i < x.2 ∧ x.2 ≤ s.size
  | 0, i, u, x, h => by simp [scan] at h
  | k + 1, i, u, x, h => by
    rw [scan] at h
    split at h
    · cases h
    · split at h
      · cases h
      · split at h
        · split at h
          · cases h
          · have := Except.ok.inj h
            subst this
            exact ⟨by simp, by simp; omega⟩
        · have := scan_le k (i + 1) _ h
          omega
theorem scanN_le {s : ByteArray} {p : Nat} {n : Int} {q : Nat} (h : scanN s p = some (n, q)) : p < q ∧ q ≤ s.size := by
  unfold scanN at h
  cases hs : scan s p 10 0 0 with
  | error c => rw [hs] at h; cases h
  | ok x =>
    rw [hs] at h
    have := scan_le 10 0 0 hs
    simp at h
    omega
theorem num_none {s : ByteArray} {p : Nat} (h : scanN s p = none) : ∃ c, numRes (scan s p 10 0 0) = .tuple #[.int .i64 0, .int .i64 0, .iface 158 (.agg #[.int .i64 c])] := by
  unfold scanN at h
  cases hs : scan s p 10 0 0 with
  | error c => exact ⟨c, rfl⟩
  | ok x => rw [hs] at h; cases h
theorem num_some {s : ByteArray} {p q : Nat} {n : Int} (h : scanN s p = some (n, q)) : numRes (scan s p 10 0 0) = .tuple #[.int .i64 n, .int .i64 (q : Int), .nilIface] := by
  unfold scanN at h
  cases hs : scan s p 10 0 0 with
  | error c => rw [hs] at h; cases h
  | ok x =>
    rw [hs] at h
    simp at h
    obtain ⟨rfl, rfl⟩ := h
    rfl
theorem faultText_any (c : Int) (w : World) : Calls Tryd.prog 170 #[.agg #[.int .i64 c]] w fun e w' => (∃ t, e = .returned (.string t)) ∧ Below w.heap.size w w' := by
  by_cases h1 : c = 1
  · subst h1
    go_enter Tryd.func170, Tryd.ntmps170
    go_wp2
    go_ret
    exact ⟨⟨_, rfl⟩, below1 _ _⟩
  · by_cases h4 : c = 4
    · subst h4
      go_enter Tryd.func170, Tryd.ntmps170
      go_wp2
      go_ret
      exact ⟨⟨_, rfl⟩, below1 _ _⟩
    · have e1 : (c == 1) = false := by simp [h1]
      have e4 : (c == 4) = false := by simp [h4]
      go_enter Tryd.func170, Tryd.ntmps170
      go_wp2
      go_ret
      exact ⟨⟨_, rfl⟩, below1 _ _⟩
theorem methodError (v : Value) (w : World) : (Go.method 318 158 v "Error").run Tryd.prog w = .ok (170, v) w := by kernel_rfl

set_option maxHeartbeats 2000000 in
set_option maxRecDepth 100000 in
theorem readStar_any (s : ByteArray) (p : Nat) (w : World) (hs : s.size ≤ 8000) (hp : p ≤ 8000) :
    Calls Tryd.prog 91 #[.string s, .int .i64 (p : Int)] w fun e w' => starRes (read4 s p) e ∧ Below w.heap.size w w' := by
  have mE := methodError
  have HR : Hid (read4 s p = read4 s p) := hide rfl
  go_enter Tryd.func91, Tryd.ntmps91
  go_wp2_with fail
  refine wp_loop_rounds 5 ?_
  rw [rounds_succ]
  go_wp2_with fail
  refine (readNum_any s p _ hs (by omega)).mono ?_
  rintro e w1 ⟨rfl, hw⟩
  rw [hw]
  clear hw w1
  cases h0 : scanN s p with
  | none =>
    obtain ⟨c, hc⟩ := num_none h0
    rw [hc]
    have HO : Hid (read4 s p = none) := hide (by unfold read4; simp only [h0])
    clear hc h0
    go_wp2_with fail
    refine (faultText_any c _).mono ?_
    rintro e wz ⟨⟨t, rfl⟩, hx⟩
    have hB : Below w.heap.size w wz := below_call (below2 _ _ _) hx
    have sr : StarAt wz w.heap.size 0 (0, 0, 0, 0) := ((starAt_new w (0, 0, 0, 0) _).kept (by simp) (below1 _ _)).kept (by simp; omega) hx
    have fr : FreeS wz w.heap.size 0 := ((freeS_new w (0, 0, 0, 0) _).kept (by simp) (below1 _ _)).kept (by simp; omega) hx
    clear hx
    obtain ⟨z0, z1, z2, z3⟩ := sr
    obtain ⟨y0, y1, y2, y3⟩ := fr
    simp only [Nat.zero_add] at z0 z1 z2 z3 y0 y1 y2 y3
    go_wp2_with fail
    exact bodyPost_ret (v := .tuple #[starA (0, 0, 0, 0), .int .i64 0, faultA t]) (by simp [results, Tryd.results91, go_sem, z0, z1, z2, z3, starA, faultA]) rfl ⟨by rw [unhide HO]; exact ⟨t, rfl⟩, (((hB.setCell (Nat.le_refl _) _).setCell (Nat.le_refl _) _).setCell (Nat.le_refl _) _).setCell (Nat.le_refl _) _⟩
  | some x0 =>
    obtain ⟨n1, p1⟩ := x0
    rw [num_some h0]
    have l0 := scanN_le h0
    go_wp2_with fail
    rw [rounds_succ]
    go_wp2_with fail
    refine (readNum_any s p1 _ hs (by omega)).mono ?_
    rintro e w2 ⟨rfl, hw⟩
    rw [hw]
    clear hw w2
    cases h1 : scanN s p1 with
    | none =>
      obtain ⟨c, hc⟩ := num_none h1
      rw [hc]
      have HO : Hid (read4 s p = none) := hide (by unfold read4; simp only [h0, h1])
      clear hc h0 h1
      go_wp2_with fail
      refine (faultText_any c _).mono ?_
      rintro e wz ⟨⟨t, rfl⟩, hx⟩
      have hB : Below w.heap.size w wz := below_call (below2 _ _ _) hx
      have sr : StarAt wz w.heap.size 0 (0, 0, 0, 0) := ((starAt_new w (0, 0, 0, 0) _).kept (by simp) (below1 _ _)).kept (by simp; omega) hx
      have fr : FreeS wz w.heap.size 0 := ((freeS_new w (0, 0, 0, 0) _).kept (by simp) (below1 _ _)).kept (by simp; omega) hx
      clear hx
      obtain ⟨z0, z1, z2, z3⟩ := sr
      obtain ⟨y0, y1, y2, y3⟩ := fr
      simp only [Nat.zero_add] at z0 z1 z2 z3 y0 y1 y2 y3
      go_wp2_with fail
      exact bodyPost_ret (v := .tuple #[starA (0, 0, 0, 0), .int .i64 0, faultA t]) (by simp [results, Tryd.results91, go_sem, z0, z1, z2, z3, starA, faultA]) rfl ⟨by rw [unhide HO]; exact ⟨t, rfl⟩, (((hB.setCell (Nat.le_refl _) _).setCell (Nat.le_refl _) _).setCell (Nat.le_refl _) _).setCell (Nat.le_refl _) _⟩
    | some x1 =>
      obtain ⟨n2, p2⟩ := x1
      rw [num_some h1]
      have l1 := scanN_le h1
      go_wp2_with fail
      rw [rounds_succ]
      go_wp2_with fail
      refine (readNum_any s p2 _ hs (by omega)).mono ?_
      rintro e w3 ⟨rfl, hw⟩
      rw [hw]
      clear hw w3
      cases h2 : scanN s p2 with
      | none =>
        obtain ⟨c, hc⟩ := num_none h2
        rw [hc]
        have HO : Hid (read4 s p = none) := hide (by unfold read4; simp only [h0, h1, h2])
        clear hc h0 h1 h2
        go_wp2_with fail
        refine (faultText_any c _).mono ?_
        rintro e wz ⟨⟨t, rfl⟩, hx⟩
        have hB : Below w.heap.size w wz := below_call (below2 _ _ _) hx
        have sr : StarAt wz w.heap.size 0 (0, 0, 0, 0) := ((starAt_new w (0, 0, 0, 0) _).kept (by simp) (below1 _ _)).kept (by simp; omega) hx
        have fr : FreeS wz w.heap.size 0 := ((freeS_new w (0, 0, 0, 0) _).kept (by simp) (below1 _ _)).kept (by simp; omega) hx
        clear hx
        obtain ⟨z0, z1, z2, z3⟩ := sr
        obtain ⟨y0, y1, y2, y3⟩ := fr
        simp only [Nat.zero_add] at z0 z1 z2 z3 y0 y1 y2 y3
        go_wp2_with fail
        exact bodyPost_ret (v := .tuple #[starA (0, 0, 0, 0), .int .i64 0, faultA t]) (by simp [results, Tryd.results91, go_sem, z0, z1, z2, z3, starA, faultA]) rfl ⟨by rw [unhide HO]; exact ⟨t, rfl⟩, (((hB.setCell (Nat.le_refl _) _).setCell (Nat.le_refl _) _).setCell (Nat.le_refl _) _).setCell (Nat.le_refl _) _⟩
      | some x2 =>
        obtain ⟨n3, p3⟩ := x2
        rw [num_some h2]
        have l2 := scanN_le h2
        go_wp2_with fail
        rw [rounds_succ]
        go_wp2_with fail
        refine (readNum_any s p3 _ hs (by omega)).mono ?_
        rintro e w4 ⟨rfl, hw⟩
        rw [hw]
        clear hw w4
        cases h3 : scanN s p3 with
        | none =>
          obtain ⟨c, hc⟩ := num_none h3
          rw [hc]
          have HO : Hid (read4 s p = none) := hide (by unfold read4; simp only [h0, h1, h2, h3])
          clear hc h0 h1 h2 h3
          go_wp2_with fail
          refine (faultText_any c _).mono ?_
          rintro e wz ⟨⟨t, rfl⟩, hx⟩
          have hB : Below w.heap.size w wz := below_call (below2 _ _ _) hx
          have sr : StarAt wz w.heap.size 0 (0, 0, 0, 0) := ((starAt_new w (0, 0, 0, 0) _).kept (by simp) (below1 _ _)).kept (by simp; omega) hx
          have fr : FreeS wz w.heap.size 0 := ((freeS_new w (0, 0, 0, 0) _).kept (by simp) (below1 _ _)).kept (by simp; omega) hx
          clear hx
          obtain ⟨z0, z1, z2, z3⟩ := sr
          obtain ⟨y0, y1, y2, y3⟩ := fr
          simp only [Nat.zero_add] at z0 z1 z2 z3 y0 y1 y2 y3
          go_wp2_with fail
          exact bodyPost_ret (v := .tuple #[starA (0, 0, 0, 0), .int .i64 0, faultA t]) (by simp [results, Tryd.results91, go_sem, z0, z1, z2, z3, starA, faultA]) rfl ⟨by rw [unhide HO]; exact ⟨t, rfl⟩, (((hB.setCell (Nat.le_refl _) _).setCell (Nat.le_refl _) _).setCell (Nat.le_refl _) _).setCell (Nat.le_refl _) _⟩
        | some x3 =>
          obtain ⟨n4, p4⟩ := x3
          rw [num_some h3]
          have l3 := scanN_le h3
          go_wp2_with fail
          rw [rounds_succ]
          go_wp2_with fail
          have HO : Hid (read4 s p = some ((n1, n2, n3, n4), p4)) := hide (by unfold read4; simp only [h0, h1, h2, h3])
          exact bodyPost_ret (v := .tuple #[starA (n1, n2, n3, n4), .int .i64 (p4 : Int), .nilIface]) (by simp [results, Tryd.results91, go_sem, starA]) rfl ⟨by rw [unhide HO]; exact rfl, below2 _ _ _⟩
end Go.Proofs.YtijpnnooenpjoagDoor
