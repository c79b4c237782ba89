/- Prime: the program's and the specification's. -/
import Derived.Test.YtofpjlhoppofdaaGreatDoorVecF
namespace Go.Proofs.YtofpjlhoppofdaaGreatDoor
open Go.RowKit
set_option linter.unusedVariables false

def gS (x y z : Int) : Nat → Int
  | 0 => 0
  | 1 => ((Int.gcd 0 x : Nat) : Int)
  | 2 => ((Int.gcd ((Int.gcd 0 x : Nat) : Int) y : Nat) : Int)
  | _ => ((Int.gcd ((Int.gcd ((Int.gcd 0 x : Nat) : Int) y : Nat) : Int) z : Nat) : Int)
theorem gS_le {x y z : Int} (k : Nat) (h : (-1000000 ≤ x ∧ x ≤ 1000000) ∧ (-1000000 ≤ y ∧ y ≤ 1000000) ∧ (-1000000 ≤ z ∧ z ≤ 1000000)) : -1000000 ≤ gS x y z k ∧ gS x y z k ≤ 1000000 := by
  have h1 := gcd_le (a := 0) (m := 1000000) (by omega) h.1
  have h2 := gcd_le (m := 1000000) (a := ((Int.gcd 0 x : Nat) : Int)) (by omega) h.2.1
  have h3 := gcd_le (m := 1000000) (a := ((Int.gcd ((Int.gcd 0 x : Nat) : Int) y : Nat) : Int)) (by omega) h.2.2
  match k with
  | 0 => exact ⟨by show (-1000000 : Int) ≤ 0; omega, by show (0 : Int) ≤ 1000000; omega⟩
  | 1 => exact ⟨by show (-1000000 : Int) ≤ ((Int.gcd 0 x : Nat) : Int); omega, h1.2⟩
  | 2 => exact ⟨by show (-1000000 : Int) ≤ ((Int.gcd ((Int.gcd 0 x : Nat) : Int) y : Nat) : Int); omega, h2.2⟩
  | k + 3 => exact ⟨by show (-1000000 : Int) ≤ ((Int.gcd ((Int.gcd ((Int.gcd 0 x : Nat) : Int) y : Nat) : Int) z : Nat) : Int); omega, h3.2⟩

set_option maxRecDepth 100000 in
theorem prime_any (a1 a2 a3 : Int) (w : World) :
    Calls Tryz.prog 94 #[.agg #[.int .i64 a1, .int .i64 a2, .int .i64 a3]] w fun e w' => e = .returned (.agg #[.int .i64 (prI (rightB a1 a2 a3) (gI a1 a2 a3) a1), .int .i64 (prI (rightB a1 a2 a3) (gI a1 a2 a3) a2), .int .i64 (prI (rightB a1 a2 a3) (gI a1 a2 a3) a3)]) ∧ Below w.heap.size w w' := by
  go_enter Tryz.func94, Tryz.ntmps94
  go_wp2_with fail
  refine (vecRight_any a1 a2 a3 _).mono ?_
  rintro e w1 ⟨rfl, hB1⟩
  have hB : Below w.heap.size w w1 := below_call (below2 _ _ _) hB1
  have hs : w.heap.size + 2 ≤ w1.heap.size := by have := hB1.size; simpa [Nat.add_assoc] using this
  have va : VecAt w1 w.heap.size a1 a2 a3 := ((by simpa using vecAt_new w a1 a2 a3 _ : VecAt _ w.heap.size a1 a2 a3).alloc (by simp) _).kept (by simp; omega) hB1
  have vr : VecAt w1 (w.heap.size + 1) 0 0 0 := (by simpa using vecAt_new (w.alloc _) 0 0 0 _ : VecAt _ (w.heap.size + 1) 0 0 0).kept (by simp) hB1
  have fr : FreeAt w1 (w.heap.size + 1) := (by simpa using freeAt_new (w.alloc _) 0 0 0 _ : FreeAt _ (w.heap.size + 1)).kept (by simp) hB1
  clear hB1
  have hva := va
  obtain ⟨ca0, ca1, ca2⟩ := va
  have hvr := vr
  have hfr := fr
  obtain ⟨cr0, cr1, cr2⟩ := vr
  obtain ⟨fr0, fr1, fr2⟩ := fr
  cases ha : rightB a1 a2 a3
  · go_wp2_with fail
    exact bodyPost_ret (v := .agg #[.int .i64 0, .int .i64 0, .int .i64 0]) (by simp [results, Tryz.results94, go_sem, cr0, cr1, cr2]) rfl ⟨by simp [prI, ha], below_set3 hB (by omega) _ _ _⟩
  · go_wp2_with fail
    refine (parts_any a1 a2 a3 _).mono ?_
    rintro e w2 ⟨rfl, hB2⟩
    have va := hva.kept (by omega) hB2
    have vr := hvr.kept (by omega) hB2
    have fr := hfr.kept (by omega) hB2
    replace hs : w.heap.size + 2 ≤ w2.heap.size := by have := hB2.size; omega
    replace hB : Below w.heap.size w w2 := below_call hB hB2
    clear hB2 hva hvr hfr ca0 ca1 ca2 cr0 cr1 cr2 fr0 fr1 fr2
    have i0 : ∀ w : World, (Instr.index 180 (.agg #[.int .i64 a1, .int .i64 a2, .int .i64 a3]) (.int .i64 0)).run Tryz.prog w = .ok (.int .i64 a1) w := fun _ => by kernel_rfl
    have i1 : ∀ w : World, (Instr.index 180 (.agg #[.int .i64 a1, .int .i64 a2, .int .i64 a3]) (.int .i64 1)).run Tryz.prog w = .ok (.int .i64 a2) w := fun _ => by kernel_rfl
    have i2 : ∀ w : World, (Instr.index 180 (.agg #[.int .i64 a1, .int .i64 a2, .int .i64 a3]) (.int .i64 2)).run Tryz.prog w = .ok (.int .i64 a3) w := fun _ => by kernel_rfl
    have HR := hide (rightB_iff.1 ha).1
    have HP := hide (gI_pos ha)
    go_wp2_with fail
    go_loopw [3, 12] (fun u i wr => ∃ (k n : Nat), k ≤ 3 ∧ i = .int .i64 k ∧ u = .int .i64 (gS a1 a2 a3 k) ∧ wr = w2.drewN n) (fun _ i _ => 3 - (intOf i).toNat)
    case atStart => exact ⟨0, 0, by omega, rfl, rfl, rfl⟩
    case round =>
      obtain ⟨k, n, hk, rfl, rfl, rfl⟩ := hrel
      have hk4 : k = 0 ∨ k = 1 ∨ k = 2 ∨ k = 3 := by omega
      rcases hk4 with rfl | rfl | rfl | rfl
      · go_wp2_with fail
        refine (shared_any _ a1 _ (gS_le 0 (unhide HR)) (unhide HR).1).mono ?_
        rintro e w3 ⟨rfl, m, rfl⟩
        go_wp2_with fail
        go_roundw
        case rel => exact ⟨1, n + m, by omega, rfl, rfl, by simp⟩
        case measure => simp [intOf]
      · go_wp2_with fail
        refine (shared_any _ a2 _ (gS_le 1 (unhide HR)) (unhide HR).2.1).mono ?_
        rintro e w3 ⟨rfl, m, rfl⟩
        go_wp2_with fail
        go_roundw
        case rel => exact ⟨2, n + m, by omega, rfl, rfl, by simp⟩
        case measure => simp [intOf]
      · go_wp2_with fail
        refine (shared_any _ a3 _ (gS_le 2 (unhide HR)) (unhide HR).2.2).mono ?_
        rintro e w3 ⟨rfl, m, rfl⟩
        go_wp2_with fail
        go_roundw
        case rel => exact ⟨3, n + m, by omega, rfl, rfl, by simp⟩
        case measure => simp [intOf]
      · have hgs : gS a1 a2 a3 3 = gI a1 a2 a3 := gcd_three a1 a2 a3
        rw [hgs]
        clear hgs
        have hpos := unhide HP
        have hz0 : (gI a1 a2 a3 == 0) = false := by simp; omega
        generalize hge : gI a1 a2 a3 = g at hpos hz0 ⊢
        have HG := hide hge
        clear hge i0 i1 i2
        have va' : VecAt (w2.drewN n) w.heap.size a1 a2 a3 := va
        have vr' : VecAt (w2.drewN n) (w.heap.size + 1) 0 0 0 := vr
        have fr' : FreeAt (w2.drewN n) (w.heap.size + 1) := fr
        have hB' : Below w.heap.size w (w2.drewN n) := below_call hB (below_drewN _ _)
        clear va vr fr hB hs
        go_wp2_with fail
        generalize w2.drewN n = w3 at va' vr' fr' hB' ⊢
        obtain ⟨ca0, ca1, ca2⟩ := va'
        obtain ⟨cr0, cr1, cr2⟩ := vr'
        obtain ⟨fr0, fr1, fr2⟩ := fr'
        go_region
        go_wp2
        exact bodyPost_ret (v := .agg #[.int .i64 (wrap64 (a1.tdiv g)), .int .i64 (wrap64 (a2.tdiv g)), .int .i64 (wrap64 (a3.tdiv g))]) (by simp [results, Tryz.results94, go_sem, cr0, cr1, cr2]) rfl ⟨by rw [unhide HG]; simp [prI, ha], (below_set3 hB' (by omega) _ _ _).drew⟩
end Go.Proofs.YtofpjlhoppofdaaGreatDoor
