/- Several texts in one: StF. -/
import Derived.Test.YtackifnnhjbgbaaQFnFrameOwn15
namespace Go.Proofs.Ytackifnnhjbgbaa
set_option linter.unusedVariables false
set_option linter.unusedSimpArgs false
set_option maxRecDepth 100000
set_option maxHeartbeats 8000000
section
open Go.RowKit
theorem StK.own {n : Nat} {w0 wr : World} {g sb : Nat} {P : Array Int → Prop} {dk : Array Int} (h : StK n w0 g P dk wr) (hb : w0.heap.size ≤ sb) (i : Nat) (v : Value) : StK n w0 g P dk (wr.setCell ⟨sb, i, none⟩ v) := by
 have hg : g < w0.heap.size := h.row.lt
 refine ⟨h.size, h.same, ⟨⟨h.row.grown.os, h.row.grown.tape, h.row.grown.output, by simpa [World.setCell] using h.row.grown.size, fun k hk hne => by rw [Below.heap_setCell _ _ _ _ (show k ≠ sb by omega)]; exact h.row.grown.block k hk hne⟩, hg, fun j hj => ?_, fun j hj => ?_⟩⟩
 ·rw [World.cell?_setCell_other _ _ _ _ (fun e => by have := congrArg Addr.block e; simp at this; omega)]
  exact h.row.cells j hj
 ·rw [← h.row.free j hj]; simp
theorem cM (g cap n a b sb : Nat) (s : Int) (dk : Array Int) (w0 w : World) (hA : At8 n w0 g dk w) (hB : Blk w sb [.int .i64 s] 3) (hsb : w0.heap.size ≤ sb) (ha : a < n) (hb : b < n) (hsz : n ≤ 1048576) (hs0 : 0 ≤ s) (hs1 : s ≤ 1000) :
  Calls Try.prog 56 #[.slice (some ⟨g, 0, none⟩) n cap, .int .i64 a, .int .i64 b, .pointer (some ⟨sb, 0, none⟩)] w fun e w' => ∃ (x y : Nat) (s' : Int), e = .returned (.tuple #[.int .i64 x, .int .i64 y]) ∧ ((x = a ∧ y = b) ∨ (x = b ∧ y = a)) ∧ 0 ≤ s' ∧ s' ≤ s + 1 ∧ At8 n w0 g dk w' ∧ Blk w' sb [.int .i64 s'] 3 := by
 have HA := yz hA
 have HB := yz hB
 clear hA hB
 obtain ⟨x, Hx⟩ : ∃ x, Hid (x = dk[b]!) := ⟨_, yz rfl⟩
 obtain ⟨y, Hy⟩ : ∃ x, Hid (x = dk[a]!) := ⟨_, yz rfl⟩
 have cx : w.cell? ⟨g, b, none⟩ = some (.int .u8 x) := by rw [yx Hx]; exact (yx HA).row.cells b (by have := (yx HA).size; omega)
 have cy : w.cell? ⟨g, a, none⟩ = some (.int .u8 y) := by rw [yx Hy]; exact (yx HA).row.cells a (by have := (yx HA).size; omega)
 have cL := yz (fun (W : World) => aA x y W)
 have rx := cell_regrown cx
 have ry := cell_regrown cy
 clear cx cy
 cases hL : Sort.ltInt x y
 ·rw [hL] at cL
  go_enter Try.func56, Try.ntmps56
  go_wp2_with fail
  refine wp_region_quiet_below (by kernel_rfl) (by kernel_rfl) ?_
  repeat (go_big_quiet_step (first | (with_reducible exact Calls.regrown_of (yx cL _))))
  refine wpQuiet_nil ?_
  intro _ hw'
  obtain ⟨⟨dq, osq⟩, hw''⟩ := hw'
  subst hw''
  have hx := below_regrown w dq osq
  replace HA := yz ((yx HA).kept hx)
  replace HB := yz ((yx HB).kept hx)
  clear hx rx ry
  generalize Sort.grow (redrawn w dq) osq = W2 at *
  clear cL
  go_wp2_with fail
  go_ret2
  exact ⟨a, b, s, rfl, .inl ⟨rfl, rfl⟩, hs0, by omega, yx HA, yx HB⟩
 ·rw [hL] at cL
  go_enter Try.func56, Try.ntmps56
  go_wp2_with fail
  refine wp_region_quiet_below (by kernel_rfl) (by kernel_rfl) ?_
  repeat (go_big_quiet_step (first | (with_reducible exact Calls.regrown_of (yx cL _))))
  refine wpQuiet_nil ?_
  intro _ hw'
  obtain ⟨⟨dq, osq⟩, hw''⟩ := hw'
  subst hw''
  have hx := below_regrown w dq osq
  replace HA := yz ((yx HA).kept hx)
  replace HB := yz ((yx HB).kept hx)
  clear hx rx ry
  generalize Sort.grow (redrawn w dq) osq = W2 at *
  clear cL
  have s0 := (yx HB).cell 0 _ rfl
  have f0 := (yx HB).free 0
  have HA2 : Hid (At8 n w0 g dk (W2.setCell ⟨sb, 0, none⟩ (.int .i64 (s + 1)))) := yz ((yx HA).own hsb 0 _)
  have HB2 : Hid (Blk (W2.setCell ⟨sb, 0, none⟩ (.int .i64 (s + 1))) sb [.int .i64 (s + 1)] 3) := yz ((yx HB).set 0 _)
  go_wp2_with fail
  go_ret2
  exact ⟨b, a, s + 1, rfl, .inr ⟨rfl, rfl⟩, by omega, by omega, yx HA2, yx HB2⟩
theorem cl (g cap n a b c sb : Nat) (s : Int) (dk : Array Int) (w0 w : World) (hA : At8 n w0 g dk w) (hB : Blk w sb [.int .i64 s] 3) (hsb : w0.heap.size ≤ sb) (ha : a < n) (hb : b < n) (hc : c < n) (hsz : n ≤ 1048576) (hs0 : 0 ≤ s) (hs1 : s ≤ 900) :
  Calls Try.prog 54 #[.slice (some ⟨g, 0, none⟩) n cap, .int .i64 a, .int .i64 b, .int .i64 c, .pointer (some ⟨sb, 0, none⟩)] w fun e w' => ∃ (x : Nat) (s' : Int), e = .returned (.int .i64 x) ∧ (x = a ∨ x = b ∨ x = c) ∧ 0 ≤ s' ∧ s' ≤ s + 3 ∧ At8 n w0 g dk w' ∧ Blk w' sb [.int .i64 s'] 3 := by
 have HA := yz hA
 have HB := yz hB
 clear hA hB
 go_enter Try.func54, Try.ntmps54
 go_wp2_with fail
 refine (cM g cap n a b sb s dk w0 _ (yx HA) (yx HB) hsb ha hb hsz hs0 (by omega)).mono ?_
 rintro e W1 ⟨x1, y1, s1, rfl, h1, h10, h11, hA1, hB1⟩
 have HA1 := yz hA1
 have HB1 := yz hB1
 clear hA1 hB1 HA HB
 have hx1 : x1 < n := by omega
 have hy1 : y1 < n := by omega
 go_wp2_with fail
 refine (cM g cap n y1 c sb s1 dk w0 _ (yx HA1) (yx HB1) hsb hy1 hc hsz h10 (by omega)).mono ?_
 rintro e W2 ⟨x2, y2, s2, rfl, h2, h20, h21, hA2, hB2⟩
 have HA2 := yz hA2
 have HB2 := yz hB2
 clear hA2 hB2 HA1 HB1
 have hx2 : x2 < n := by omega
 go_wp2_with fail
 refine (cM g cap n x1 x2 sb s2 dk w0 _ (yx HA2) (yx HB2) hsb hx1 hx2 hsz h20 (by omega)).mono ?_
 rintro e W3 ⟨x3, y3, s3, rfl, h3, h30, h31, hA3, hB3⟩
 have HA3 := yz hA3
 have HB3 := yz hB3
 clear hA3 hB3 HA2 HB2
 have hy3 : y3 = a ∨ y3 = b ∨ y3 = c := by omega
 have hs3 : s3 ≤ s + 3 := by omega
 clear h1 h2 h3
 go_wp2_with fail
 go_ret
 exact ⟨y3, s3, rfl, hy3, h30, hs3, yx HA3, yx HB3⟩
theorem bM (g cap n a sb : Nat) (s : Int) (dk : Array Int) (w0 w : World) (hA : At8 n w0 g dk w) (hB : Blk w sb [.int .i64 s] 3) (hsb : w0.heap.size ≤ sb) (ha : 1 ≤ a) (hb : a + 1 < n) (hsz : n ≤ 1048576) (hs0 : 0 ≤ s) (hs1 : s ≤ 900) :
  Calls Try.prog 53 #[.slice (some ⟨g, 0, none⟩) n cap, .int .i64 a, .pointer (some ⟨sb, 0, none⟩)] w fun e w' => ∃ (x : Nat) (s' : Int), e = .returned (.int .i64 x) ∧ a ≤ x + 1 ∧ x ≤ a + 1 ∧ 0 ≤ s' ∧ s' ≤ s + 3 ∧ At8 n w0 g dk w' ∧ Blk w' sb [.int .i64 s'] 3 := by
 obtain ⟨m, rfl⟩ : ∃ m, a = m + 1 := ⟨a - 1, by omega⟩
 have c := yz (cl g cap n m (m + 1) (m + 1 + 1) sb s dk w0 w hA hB hsb (by omega) (by omega) (by omega) hsz hs0 hs1)
 clear hA hB
 go_enter Try.func53, Try.ntmps53
 go_wp2_with fail
 refine (yx c).mono ?_
 rintro e W1 ⟨x, s1, rfl, h1, h10, h11, hA1, hB1⟩
 have HA1 := yz hA1
 have HB1 := yz hB1
 clear hA1 hB1 c
 have q1 : m + 1 ≤ x + 1 := by omega
 have q2 : x ≤ m + 1 + 1 := by omega
 clear h1
 go_wp2_with fail
 go_ret
 exact ⟨x, s1, rfl, q1, q2, h10, h11, yx HA1, yx HB1⟩
theorem gE (g cap n a b : Nat) (dk : Array Int) (w0 w : World) (hA : At8 n w0 g dk w) (hab : a + 12 < b) (hb : b ≤ n) (hsz : n ≤ 1048576) :
  Calls Try.prog 40 #[.slice (some ⟨g, 0, none⟩) n cap, .int .i64 a, .int .i64 b] w fun e w' => ∃ (x : Nat) (h : Int), e = .returned (.tuple #[.int .i64 x, .int .i64 h]) ∧ a ≤ x ∧ x < b ∧ At8 n w0 g dk w' := by
 obtain ⟨q, hq⟩ : ∃ q, q = (b - a) / 4 := ⟨_, rfl⟩
 have eq : ((b : Int) - (a : Int)) / 4 = (q : Int) := by omega
 have hq4 : q * 4 ≤ b - a := by omega
 obtain ⟨x, hx⟩ : ∃ x, x = a + q := ⟨_, rfl⟩
 have ex : (a : Int) + (q : Int) = (x : Int) := by omega
 obtain ⟨y, hy⟩ : ∃ x, x = a + q * 2 := ⟨_, rfl⟩
 have ey : (a : Int) + (q : Int) * 2 = (y : Int) := by omega
 obtain ⟨z, hz⟩ : ∃ x, x = a + q * 3 := ⟨_, rfl⟩
 have ez : (a : Int) + (q : Int) * 3 = (z : Int) := by omega
 have h8 : (8 : Int) ≤ (b : Int) - (a : Int) := by omega
 obtain ⟨sb, hsb⟩ : ∃ k, k = w.heap.size := ⟨_, rfl⟩
 obtain ⟨W0, hW0⟩ : ∃ W, W = w.alloc (.cells #[.int .i64 0] 3) := ⟨_, rfl⟩
 have HB : Hid (Blk W0 sb [.int .i64 0] 3) := yz (by rw [hW0, hsb]; exact al w [.int .i64 0] 3)
 have HA : Hid (At8 n w0 g dk W0) := yz (by rw [hW0]; exact hA.kept (an _ _))
 have hsb0 : w0.heap.size ≤ sb := by rw [hsb]; exact hA.row.grown.size
 clear hA
 have hax : a + 1 ≤ x := by omega
 have hxb : x + 1 < b := by omega
 have hay : a + 1 ≤ y := by omega
 have hyb : y + 1 < b := by omega
 have haz : a + 1 ≤ z := by omega
 have hzb : z + 1 < b := by omega
 have HQ := yz hq
 have HX := yz hx
 have HY := yz hy
 have HZ := yz hz
 clear hq hx hy hz
 by_cases h50 : b - a < 50
 ·have h50z : ¬ (50 : Int) ≤ (b : Int) - (a : Int) := by omega
  go_enter Try.func40, Try.ntmps40
  go_wp2_with fail
  rw [← hsb, ← hW0]
  clear hW0 hsb
  refine (cl g cap n x y z sb 0 dk w0 _ (yx HA) (yx HB) hsb0 (by omega) (by omega) (by omega) hsz (by omega) (by omega)).mono ?_
  rintro e W1 ⟨m, s1, rfl, h1, h10, h11, hA1, hB1⟩
  have HA1 := yz hA1
  have HB1 := yz hB1
  have hm1 : a ≤ m := by omega
  have hm2 : m < b := by omega
  clear hA1 hB1 HA HB h1
  have s0 := (yx HB1).cell 0 _ rfl
  by_cases k0 : s1 = 0
  ·have k1 : (s1 == 0) = true := by simp [k0]
   go_wp2_with fail
   go_ret2
   exact ⟨m, _, rfl, by omega, by omega, yx HA1⟩
  have k1 : (s1 == 0) = false := by simp [k0]
  by_cases k2 : s1 = 12
  ·have k3 : (s1 == 12) = true := by simp [k2]
   go_wp2_with fail
   go_ret2
   exact ⟨m, _, rfl, by omega, by omega, yx HA1⟩
  have k3 : (s1 == 12) = false := by simp [k2]
  go_wp2_with fail
  go_ret2
  exact ⟨m, _, rfl, by omega, by omega, yx HA1⟩
 ·have h50z : (50 : Int) ≤ (b : Int) - (a : Int) := by omega
  go_enter Try.func40, Try.ntmps40
  go_wp2_with fail
  rw [← hsb, ← hW0]
  clear hW0 hsb
  refine (bM g cap n x sb 0 dk w0 _ (yx HA) (yx HB) hsb0 (by omega) (by omega) hsz (by omega) (by omega)).mono ?_
  rintro e W1 ⟨m0, s1, rfl, h0a, h0b, h0c, h0d, hA1, hB1⟩
  have HA1 := yz hA1
  have HB1 := yz hB1
  have hl0 : a ≤ m0 := by omega
  have hu0 : m0 < b := by omega
  clear hA1 hB1 HA HB h0a h0b
  go_wp2_with fail
  refine (bM g cap n y sb s1 dk w0 _ (yx HA1) (yx HB1) hsb0 (by omega) (by omega) hsz (by omega) (by omega)).mono ?_
  rintro e W2 ⟨m1, s2, rfl, h1a, h1b, h1c, h1d, hA1, hB1⟩
  have HA2 := yz hA1
  have HB2 := yz hB1
  have hl1 : a ≤ m1 := by omega
  have hu1 : m1 < b := by omega
  clear hA1 hB1 HA1 HB1 h1a h1b
  go_wp2_with fail
  refine (bM g cap n z sb s2 dk w0 _ (yx HA2) (yx HB2) hsb0 (by omega) (by omega) hsz (by omega) (by omega)).mono ?_
  rintro e W3 ⟨m2, s3, rfl, h2a, h2b, h2c, h2d, hA1, hB1⟩
  have HA3 := yz hA1
  have HB3 := yz hB1
  have hl2 : a ≤ m2 := by omega
  have hu2 : m2 < b := by omega
  clear hA1 hB1 HA2 HB2 h2a h2b
  go_wp2_with fail
  refine (cl g cap n m0 m1 m2 sb s3 dk w0 _ (yx HA3) (yx HB3) hsb0 (by omega) (by omega) (by omega) hsz (by omega) (by omega)).mono ?_
  rintro e W4 ⟨m, s4, rfl, h1, h10, h11, hA1, hB1⟩
  have HA4 := yz hA1
  have HB4 := yz hB1
  have hm1 : a ≤ m := by omega
  have hm2 : m < b := by omega
  clear hA1 hB1 HA3 HB3 h1
  have s0 := (yx HB4).cell 0 _ rfl
  by_cases k0 : s4 = 0
  ·have k1 : (s4 == 0) = true := by simp [k0]
   go_wp2_with fail
   go_ret2
   exact ⟨m, _, rfl, by omega, by omega, yx HA4⟩
  have k1 : (s4 == 0) = false := by simp [k0]
  by_cases k2 : s4 = 12
  ·have k3 : (s4 == 12) = true := by simp [k2]
   go_wp2_with fail
   go_ret2
   exact ⟨m, _, rfl, by omega, by omega, yx HA4⟩
  have k3 : (s4 == 12) = false := by simp [k2]
  go_wp2_with fail
  go_ret2
  exact ⟨m, _, rfl, by omega, by omega, yx HA4⟩
end
end Go.Proofs.Ytackifnnhjbgbaa
