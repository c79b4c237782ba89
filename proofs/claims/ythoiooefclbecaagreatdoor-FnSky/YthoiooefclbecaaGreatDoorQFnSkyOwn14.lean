/- Several texts in one: UnsealWalks. -/
import Derived.Deep.RegionWith
import Derived.Test.YthoiooefclbecaaGreatDoorQFnSkyOwn9
import Derived.Test.YthoiooefclbecaaGreatDoorQFnSkyOwn13
namespace Go.Proofs.YthoiooefclbecaaGreatDoor
set_option linter.unusedVariables false
set_option linter.unusedSimpArgs false
set_option maxRecDepth 100000
set_option maxHeartbeats 8000000
section
open Go.RowKit
theorem eL (s : ByteArray) : (s.extract 0 (s.size - 4)).size = s.size - 4 := by simp
theorem rU {a b : ByteArray} (h : a = b) : (a.toList == b.toList) = true := by subst h; simp
theorem pi {a b : ByteArray} (h : a ≠ b) : (a.toList == b.toList) = false := by
 rw [ByteArray.toList_eq, ByteArray.toList_eq]
 simp
 intro e
 exact h (ByteArray.ext e)
theorem tl (s : ByteArray) : s.extract 0 (s.size - 4) ++ s.extract (s.size - 4) s.size = s := by
 simp
theorem nR (s : ByteArray) (h : 4 ≤ s.size) (hs : s.size ≤ 8000) : aL (s.extract 0 (s.size - 4)) = s ↔ jo (dQ 0 (s.extract 0 (s.size - 4)) : Nat) = s.extract (s.size - 4) s.size := by
 have hb := eL s
 have hx := tl s
 generalize s.extract 0 (s.size - 4) = b at *
 generalize s.extract (s.size - 4) s.size = t at *
 have e : aL b = b ++ jo (dQ 0 b : Nat) := by simp [aL]; intro; omega
 rw [e]
 constructor
 ·intro h1
  rw [← hx] at h1
  exact (ByteArray.append_right_inj _).1 h1
 ·intro h1
  rw [h1]
  exact hx
theorem pN {w w1 : World} {T : TypeId} (hb : Below (w.alloc (.cells #[.string ⟨#[]⟩, .int .i64 0, .int .i64 0] T)).heap.size (w.alloc (.cells #[.string ⟨#[]⟩, .int .i64 0, .int .i64 0] T)) w1) :
  w1.cell? ⟨w.heap.size, 0, none⟩ = some (.string ⟨#[]⟩) ∧ w1.cell? ⟨w.heap.size, 1, none⟩ = some (.int .i64 0) ∧ w1.cell? ⟨w.heap.size, 2, none⟩ = some (.int .i64 0) ∧
  w1.frozen? ⟨w.heap.size, 0, none⟩ = false ∧ w1.frozen? ⟨w.heap.size, 1, none⟩ = false ∧ w1.frozen? ⟨w.heap.size, 2, none⟩ = false ∧ w.heap.size < w1.heap.size ∧ Below w.heap.size w w1 := by
 have hlt : w.heap.size < (w.alloc (.cells #[.string ⟨#[]⟩, .int .i64 0, .int .i64 0] T)).heap.size := by simp
 refine ⟨?_, ?_, ?_, ?_, ?_, ?_, Nat.lt_of_lt_of_le hlt hb.size, ((Below.refl _ w).alloc (Nat.le_refl _) _).trans (hb.mono (Nat.le_of_lt hlt))⟩
 ·rw [hb.cell (p := ⟨w.heap.size, 0, none⟩) hlt]; simp
 ·rw [hb.cell (p := ⟨w.heap.size, 1, none⟩) hlt]; simp
 ·rw [hb.cell (p := ⟨w.heap.size, 2, none⟩) hlt]; simp
 ·rw [hb.frozen (p := ⟨w.heap.size, 0, none⟩) hlt]; simp
 ·rw [hb.frozen (p := ⟨w.heap.size, 1, none⟩) hlt]; simp
 ·rw [hb.frozen (p := ⟨w.heap.size, 2, none⟩) hlt]; simp
theorem ld (s : ByteArray) (w : World) (hs : s.size ≤ 8000) (h : 4 ≤ s.size) (hq : jo (dQ 0 (s.extract 0 (s.size - 4)) : Nat) = s.extract (s.size - 4) s.size) :
  Calls Tryz.prog 38 #[.string s] w fun e w' => e = .returned (.agg #[.string (s.extract 0 (s.size - 4)), .int .i64 0, .int .i64 0]) ∧ Below w.heap.size w w' := by
 have h4 : (4 : Int) ≤ (s.size : Int) := by omega
 have h7 : (s.size : Int) - 4 ≤ (s.size : Int) := by omega
 have hwr : IntKind.i64.wrap ((s.size : Int) - 4) = (s.size : Int) - 4 := by rw [IntKind.wrap_i64]; omega
 have hn : ((s.size : Int) - 4).toNat = s.size - 4 := by omega
 have hb := eL s
 have hc := gJ (c := 0) (s.extract 0 (s.size - 4)) (by omega)
 have h8 : (s.extract 0 (s.size - 4)).size ≤ 8000 := by omega
 have hq' := rU hq
 clear hq hb
 go_enter Tryz.func38, Tryz.ntmps38
 go_wp2_with fail
 go_region_with (first | (go_at_call 83; refine (gu 0 _ _ (by omega) h8).mono ?_; rintro e w' ⟨rfl, rfl⟩) | (go_at_call 82; refine (fp _ _ hc).mono ?_; rintro e w' ⟨rfl, hb⟩))
 obtain ⟨c0, c1, c2, f0, f1, f2, hz, hB⟩ := pN ((Below.refl _ _).drew.trans hb)
 clear hb
 go_wp2
 exact bodyPost_ret (v := .agg #[.string (s.extract 0 (s.size - 4)), .int .i64 0, .int .i64 0]) (by simp [results, Tryz.results38, go_sem, c0, c1, c2]) rfl ⟨rfl, ((hB.setCell (by simp) _).setCell (by simp) _).setCell (by simp) _⟩
theorem kE (s : ByteArray) (w : World) (hs : s.size ≤ 8000) (h : 4 ≤ s.size) (hq : jo (dQ 0 (s.extract 0 (s.size - 4)) : Nat) ≠ s.extract (s.size - 4) s.size) :
  Calls Tryz.prog 38 #[.string s] w fun e w' => e = .returned (.agg #[.string ⟨#[]⟩, .int .i64 0, .int .i64 5]) ∧ Below w.heap.size w w' := by
 have h4 : (4 : Int) ≤ (s.size : Int) := by omega
 have h7 : (s.size : Int) - 4 ≤ (s.size : Int) := by omega
 have hwr : IntKind.i64.wrap ((s.size : Int) - 4) = (s.size : Int) - 4 := by rw [IntKind.wrap_i64]; omega
 have hn : ((s.size : Int) - 4).toNat = s.size - 4 := by omega
 have hb := eL s
 have hc := gJ (c := 0) (s.extract 0 (s.size - 4)) (by omega)
 have h8 : (s.extract 0 (s.size - 4)).size ≤ 8000 := by omega
 have hq' := pi hq
 clear hq hb
 go_enter Tryz.func38, Tryz.ntmps38
 go_wp2_with fail
 go_region_with (first | (go_at_call 83; refine (gu 0 _ _ (by omega) h8).mono ?_; rintro e w' ⟨rfl, rfl⟩) | (go_at_call 82; refine (fp _ _ hc).mono ?_; rintro e w' ⟨rfl, hb⟩))
 obtain ⟨c0, c1, c2, f0, f1, f2, hz, hB⟩ := pN ((Below.refl _ _).drew.trans hb)
 clear hb
 go_wp2
 exact bodyPost_ret (v := .agg #[.string ⟨#[]⟩, .int .i64 0, .int .i64 5]) (by simp [results, Tryz.results38, go_sem, c0, c1, c2]) rfl ⟨rfl, ((hB.setCell (by simp) _).setCell (by simp) _).setCell (by simp) _⟩
theorem le (s : ByteArray) (w : World) (hs : s.size ≤ 1048576) (h : 8000 < s.size) :
  Calls Tryz.prog 38 #[.string s] w fun e w' => e = .returned (.agg #[.string ⟨#[]⟩, .int .i64 0, .int .i64 2]) ∧ Below w.heap.size w w' := by
 go_enter Tryz.func38, Tryz.ntmps38
 go_wp2
 exact bodyPost_ret (v := .agg #[.string ⟨#[]⟩, .int .i64 0, .int .i64 2]) (by simp [results, Tryz.results38, go_sem]) rfl ⟨rfl, (Below.refl _ _).alloc (Nat.le_refl _) _⟩
theorem iL (s : ByteArray) (w : World) (h : s.size < 4) :
  Calls Tryz.prog 38 #[.string s] w fun e w' => e = .returned (.agg #[.string ⟨#[]⟩, .int .i64 0, .int .i64 4]) ∧ Below w.heap.size w w' := by
 go_enter Tryz.func38, Tryz.ntmps38
 go_wp2
 exact bodyPost_ret (v := .agg #[.string ⟨#[]⟩, .int .i64 0, .int .i64 4]) (by simp [results, Tryz.results38, go_sem]) rfl ⟨rfl, (Below.refl _ _).alloc (Nat.le_refl _) _⟩
theorem kV (s : ByteArray) (w : World) (hs : s.size ≤ 1048576) (h : 8000 < s.size) :
  Calls Tryz.prog 40 #[.string s] w fun e w' => e = .returned (.agg #[.string ⟨#[]⟩, .int .i64 0, .int .i64 2]) ∧ Below w.heap.size w w' := by
 go_enter Tryz.func40, Tryz.ntmps40
 go_wp2
 exact bodyPost_ret (v := .agg #[.string ⟨#[]⟩, .int .i64 0, .int .i64 2]) (by simp [results, Tryz.results40, go_sem]) rfl ⟨rfl, (Below.refl _ _).alloc (Nat.le_refl _) _⟩
theorem iy (s : ByteArray) (w : World) (h : s.size < 4) :
  Calls Tryz.prog 40 #[.string s] w fun e w' => e = .returned (.agg #[.string ⟨#[]⟩, .int .i64 0, .int .i64 4]) ∧ Below w.heap.size w w' := by
 go_enter Tryz.func40, Tryz.ntmps40
 go_wp2
 exact bodyPost_ret (v := .agg #[.string ⟨#[]⟩, .int .i64 0, .int .i64 4]) (by simp [results, Tryz.results40, go_sem]) rfl ⟨rfl, (Below.refl _ _).alloc (Nat.le_refl _) _⟩
theorem kg (s : ByteArray) (w : World) (hs : s.size ≤ 8000) (h : 4 ≤ s.size) (hq : aL (s.extract 0 (s.size - 4)) ≠ s) :
  Calls Tryz.prog 40 #[.string s] w fun e w' => e = .returned (.agg #[.string ⟨#[]⟩, .int .i64 0, .int .i64 5]) ∧ Below w.heap.size w w' := by
 have hb := eL s
 have h8 : (s.extract 0 (s.size - 4)).size ≤ 1048576 := by omega
 have hq' := pi hq
 clear hq hb
 go_enter Tryz.func40, Tryz.ntmps40
 go_wp2_with fail
 refine (dR _ _ h8).mono ?_
 rintro e w1 ⟨rfl, hb⟩
 obtain ⟨c0, c1, c2, f0, f1, f2, hz, hB⟩ := pN hb
 clear hb
 go_wp2
 exact bodyPost_ret (v := .agg #[.string ⟨#[]⟩, .int .i64 0, .int .i64 5]) (by simp [results, Tryz.results40, go_sem, c0, c1, c2]) rfl ⟨rfl, ((hB.setCell (by simp) _).setCell (by simp) _).setCell (by simp) _⟩
theorem kU (s : ByteArray) (w : World) (hs : s.size ≤ 8000) (h : 4 ≤ s.size) (hq : aL (s.extract 0 (s.size - 4)) = s) :
  Calls Tryz.prog 40 #[.string s] w fun e w' => e = .returned (.agg #[.string (s.extract 0 (s.size - 4)), .int .i64 0, .int .i64 0]) ∧ Below w.heap.size w w' := by
 have hb := eL s
 have h8 : (s.extract 0 (s.size - 4)).size ≤ 1048576 := by omega
 have h9 : (s.extract 0 (s.size - 4)).size ≤ 100000 := by omega
 have hq' := rU hq
 clear hq hb
 go_enter Tryz.func40, Tryz.ntmps40
 go_wp2_with fail
 refine (dR _ _ h8).mono ?_
 rintro e w1 ⟨rfl, hb⟩
 go_wp2_with fail
 refine (kT _ _ h9).mono ?_
 rintro e w2 ⟨rfl, hb2⟩
 obtain ⟨c0, c1, c2, f0, f1, f2, hz, hB⟩ := pN (hb.trans (hb2.mono hb.size))
 clear hb hb2
 go_wp2
 exact bodyPost_ret (v := .agg #[.string (s.extract 0 (s.size - 4)), .int .i64 0, .int .i64 0]) (by simp [results, Tryz.results40, go_sem, c0, c1, c2]) rfl ⟨rfl, ((hB.setCell (by simp) _).setCell (by simp) _).setCell (by simp) _⟩
end
end Go.Proofs.YthoiooefclbecaaGreatDoor
