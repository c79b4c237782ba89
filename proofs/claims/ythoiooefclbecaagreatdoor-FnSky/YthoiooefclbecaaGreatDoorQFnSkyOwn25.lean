/- Several texts in one: ReadA. -/
import Derived.Test.YthoiooefclbecaaGreatDoorQFnSkyOwn17
import Derived.Test.YthoiooefclbecaaGreatDoorQFnSkyOwn12
namespace Go.Proofs.YthoiooefclbecaaGreatDoor
set_option linter.unusedVariables false
set_option linter.unusedSimpArgs false
set_option maxRecDepth 100000
set_option maxHeartbeats 8000000
section
open Go.RowKit
def bq (s : ByteArray) (p : Nat) : Option (Int × Nat) := match bi s p 10 0 0 with | .ok x => some (unf x.1, x.2) | .error _ => none
def bK (s : ByteArray) (p : Nat) : Option (St × Nat) :=
 match bq s p with
 | none => none
 | some (a, p1) => match bq s p1 with
  | none => none
  | some (b, p2) => match bq s p2 with
   | none => none
   | some (c, p3) => match bq s p3 with
    | none => none
    | some (d, p4) => some ((a, b, c, d), p4)
def eH (x : St) : Value := .agg #[.int .i64 x.1, .int .i64 x.2.1, .int .i64 x.2.2.1, .int .i64 x.2.2.2]
def sF (r : Option (St × Nat)) (e : Ending) : Prop := match r with
 | none => ∃ why, e = .returned (.tuple #[eH (0, 0, 0, 0), .int .i64 0, aY why])
 | some (x, q) => e = .returned (.tuple #[eH x, .int .i64 (q : Int), .nilIface])
theorem pL {s : ByteArray} {p : Nat} : ∀ (k i u : Nat) {x : Nat × Nat}, bi s p k i u = .ok x → p + i < x.2 ∧ x.2 ≤ s.size
 | 0, i, u, x, h => by simp [bi] at h
 | k + 1, i, u, x, h => by
  rw [bi] at h
  split at h
  ·cases h
  ·split at h
   ·cases h
   ·split at h
    ·split at h
     ·cases h
     ·have := Except.ok.inj h
      subst this
      exact ⟨by simp, by simp; omega⟩
    ·have := pL k (i + 1) _ h
     omega
theorem bg {s : ByteArray} {p : Nat} {n : Int} {q : Nat} (h : bq s p = some (n, q)) : p < q ∧ q ≤ s.size := by
 unfold bq at h
 cases hs : bi s p 10 0 0 with
 | error c => rw [hs] at h; cases h
 | ok x =>
  rw [hs] at h
  have := pL 10 0 0 hs
  simp at h
  omega
theorem fq {s : ByteArray} {p : Nat} (h : bq s p = none) : ∃ c, kl (bi s p 10 0 0) = .tuple #[.int .i64 0, .int .i64 0, .iface 135 (.agg #[.int .i64 c])] := by
 unfold bq at h
 cases hs : bi s p 10 0 0 with
 | error c => exact ⟨c, rfl⟩
 | ok x => rw [hs] at h; cases h
theorem fs {s : ByteArray} {p q : Nat} {n : Int} (h : bq s p = some (n, q)) : kl (bi s p 10 0 0) = .tuple #[.int .i64 n, .int .i64 (q : Int), .nilIface] := by
 unfold bq at h
 cases hs : bi s p 10 0 0 with
 | error c => rw [hs] at h; cases h
 | ok x =>
  rw [hs] at h
  simp at h
  obtain ⟨rfl, rfl⟩ := h
  rfl
theorem cF (c : Int) (w : World) : Calls Tryz.prog 136 #[.agg #[.int .i64 c]] w fun e w' => (∃ t, e = .returned (.string t)) ∧ Below w.heap.size w w' := by
 by_cases h1 : c = 1
 ·subst h1
  go_enter Tryz.func136, Tryz.ntmps136
  go_wp2
  go_ret
  exact ⟨⟨_, rfl⟩, am _ _⟩
 ·by_cases h4 : c = 4
  ·subst h4
   go_enter Tryz.func136, Tryz.ntmps136
   go_wp2
   go_ret
   exact ⟨⟨_, rfl⟩, am _ _⟩
  ·have e1 : (c == 1) = false := by simp [h1]
   have e4 : (c == 4) = false := by simp [h4]
   go_enter Tryz.func136, Tryz.ntmps136
   go_wp2
   go_ret
   exact ⟨⟨_, rfl⟩, am _ _⟩
theorem iY (v : Value) (w : World) : (Go.method 289 135 v "Error").run Tryz.prog w = .ok (136, v) w := by kernel_rfl
theorem mu (s : ByteArray) (p : Nat) (w : World) (hs : s.size ≤ 8000) (hp : p ≤ 8000) :
  Calls Tryz.prog 86 #[.string s, .int .i64 (p : Int)] w fun e w' => sF (bK s p) e ∧ Below w.heap.size w w' := by
 have mE := iY
 have HR : Hid (bK s p = bK s p) := yz rfl
 go_enter Tryz.func86, Tryz.ntmps86
 go_wp2_with fail
 refine wp_loop_rounds 5 ?_
 rw [rounds_succ]
 go_wp2_with fail
 refine (dL s p _ hs (by omega)).mono ?_
 rintro e w1 ⟨rfl, hw⟩
 rw [hw]
 clear hw w1
 cases h0 : bq s p with
 | none =>
  obtain ⟨c, hc⟩ := fq h0
  rw [hc]
  have HO : Hid (bK s p = none) := yz (by unfold bK; simp only [h0])
  clear hc h0
  go_wp2_with fail
  refine (cF c _).mono ?_
  rintro e wz ⟨⟨t, rfl⟩, hx⟩
  have hB : Below w.heap.size w wz := ak (be _ _ _) hx
  have sr : dA wz w.heap.size 0 (0, 0, 0, 0) := ((bQ w (0, 0, 0, 0) _).kept (by simp) (am _ _)).kept (by simp; omega) hx
  have fr : iP wz w.heap.size 0 := ((fG w (0, 0, 0, 0) _).kept (by simp) (am _ _)).kept (by simp; omega) hx
  clear hx
  obtain ⟨z0, z1, z2, z3⟩ := sr
  obtain ⟨y0, y1, y2, y3⟩ := fr
  simp only [Nat.zero_add] at z0 z1 z2 z3 y0 y1 y2 y3
  go_wp2_with fail
  exact bodyPost_ret (v := .tuple #[eH (0, 0, 0, 0), .int .i64 0, aY t]) (by simp [results, Tryz.results86, go_sem, z0, z1, z2, z3, eH, aY]) rfl ⟨by rw [yy HO]; exact ⟨t, rfl⟩, (((hB.setCell (Nat.le_refl _) _).setCell (Nat.le_refl _) _).setCell (Nat.le_refl _) _).setCell (Nat.le_refl _) _⟩
 | some x0 =>
  obtain ⟨n1, p1⟩ := x0
  rw [fs h0]
  have l0 := bg h0
  go_wp2_with fail
  rw [rounds_succ]
  go_wp2_with fail
  refine (dL s p1 _ hs (by omega)).mono ?_
  rintro e w2 ⟨rfl, hw⟩
  rw [hw]
  clear hw w2
  cases h1 : bq s p1 with
  | none =>
   obtain ⟨c, hc⟩ := fq h1
   rw [hc]
   have HO : Hid (bK s p = none) := yz (by unfold bK; simp only [h0, h1])
   clear hc h0 h1
   go_wp2_with fail
   refine (cF c _).mono ?_
   rintro e wz ⟨⟨t, rfl⟩, hx⟩
   have hB : Below w.heap.size w wz := ak (be _ _ _) hx
   have sr : dA wz w.heap.size 0 (0, 0, 0, 0) := ((bQ w (0, 0, 0, 0) _).kept (by simp) (am _ _)).kept (by simp; omega) hx
   have fr : iP wz w.heap.size 0 := ((fG w (0, 0, 0, 0) _).kept (by simp) (am _ _)).kept (by simp; omega) hx
   clear hx
   obtain ⟨z0, z1, z2, z3⟩ := sr
   obtain ⟨y0, y1, y2, y3⟩ := fr
   simp only [Nat.zero_add] at z0 z1 z2 z3 y0 y1 y2 y3
   go_wp2_with fail
   exact bodyPost_ret (v := .tuple #[eH (0, 0, 0, 0), .int .i64 0, aY t]) (by simp [results, Tryz.results86, go_sem, z0, z1, z2, z3, eH, aY]) rfl ⟨by rw [yy HO]; exact ⟨t, rfl⟩, (((hB.setCell (Nat.le_refl _) _).setCell (Nat.le_refl _) _).setCell (Nat.le_refl _) _).setCell (Nat.le_refl _) _⟩
  | some x1 =>
   obtain ⟨n2, p2⟩ := x1
   rw [fs h1]
   have l1 := bg h1
   go_wp2_with fail
   rw [rounds_succ]
   go_wp2_with fail
   refine (dL s p2 _ hs (by omega)).mono ?_
   rintro e w3 ⟨rfl, hw⟩
   rw [hw]
   clear hw w3
   cases h2 : bq s p2 with
   | none =>
    obtain ⟨c, hc⟩ := fq h2
    rw [hc]
    have HO : Hid (bK s p = none) := yz (by unfold bK; simp only [h0, h1, h2])
    clear hc h0 h1 h2
    go_wp2_with fail
    refine (cF c _).mono ?_
    rintro e wz ⟨⟨t, rfl⟩, hx⟩
    have hB : Below w.heap.size w wz := ak (be _ _ _) hx
    have sr : dA wz w.heap.size 0 (0, 0, 0, 0) := ((bQ w (0, 0, 0, 0) _).kept (by simp) (am _ _)).kept (by simp; omega) hx
    have fr : iP wz w.heap.size 0 := ((fG w (0, 0, 0, 0) _).kept (by simp) (am _ _)).kept (by simp; omega) hx
    clear hx
    obtain ⟨z0, z1, z2, z3⟩ := sr
    obtain ⟨y0, y1, y2, y3⟩ := fr
    simp only [Nat.zero_add] at z0 z1 z2 z3 y0 y1 y2 y3
    go_wp2_with fail
    exact bodyPost_ret (v := .tuple #[eH (0, 0, 0, 0), .int .i64 0, aY t]) (by simp [results, Tryz.results86, go_sem, z0, z1, z2, z3, eH, aY]) rfl ⟨by rw [yy HO]; exact ⟨t, rfl⟩, (((hB.setCell (Nat.le_refl _) _).setCell (Nat.le_refl _) _).setCell (Nat.le_refl _) _).setCell (Nat.le_refl _) _⟩
   | some x2 =>
    obtain ⟨n3, p3⟩ := x2
    rw [fs h2]
    have l2 := bg h2
    go_wp2_with fail
    rw [rounds_succ]
    go_wp2_with fail
    refine (dL s p3 _ hs (by omega)).mono ?_
    rintro e w4 ⟨rfl, hw⟩
    rw [hw]
    clear hw w4
    cases h3 : bq s p3 with
    | none =>
     obtain ⟨c, hc⟩ := fq h3
     rw [hc]
     have HO : Hid (bK s p = none) := yz (by unfold bK; simp only [h0, h1, h2, h3])
     clear hc h0 h1 h2 h3
     go_wp2_with fail
     refine (cF c _).mono ?_
     rintro e wz ⟨⟨t, rfl⟩, hx⟩
     have hB : Below w.heap.size w wz := ak (be _ _ _) hx
     have sr : dA wz w.heap.size 0 (0, 0, 0, 0) := ((bQ w (0, 0, 0, 0) _).kept (by simp) (am _ _)).kept (by simp; omega) hx
     have fr : iP wz w.heap.size 0 := ((fG w (0, 0, 0, 0) _).kept (by simp) (am _ _)).kept (by simp; omega) hx
     clear hx
     obtain ⟨z0, z1, z2, z3⟩ := sr
     obtain ⟨y0, y1, y2, y3⟩ := fr
     simp only [Nat.zero_add] at z0 z1 z2 z3 y0 y1 y2 y3
     go_wp2_with fail
     exact bodyPost_ret (v := .tuple #[eH (0, 0, 0, 0), .int .i64 0, aY t]) (by simp [results, Tryz.results86, go_sem, z0, z1, z2, z3, eH, aY]) rfl ⟨by rw [yy HO]; exact ⟨t, rfl⟩, (((hB.setCell (Nat.le_refl _) _).setCell (Nat.le_refl _) _).setCell (Nat.le_refl _) _).setCell (Nat.le_refl _) _⟩
    | some x3 =>
     obtain ⟨n4, p4⟩ := x3
     rw [fs h3]
     have l3 := bg h3
     go_wp2_with fail
     rw [rounds_succ]
     go_wp2_with fail
     have HO : Hid (bK s p = some ((n1, n2, n3, n4), p4)) := yz (by unfold bK; simp only [h0, h1, h2, h3])
     exact bodyPost_ret (v := .tuple #[eH (n1, n2, n3, n4), .int .i64 (p4 : Int), .nilIface]) (by simp [results, Tryz.results86, go_sem, eH]) rfl ⟨by rw [yy HO]; exact rfl, be _ _ _⟩
end
end Go.Proofs.YthoiooefclbecaaGreatDoor
