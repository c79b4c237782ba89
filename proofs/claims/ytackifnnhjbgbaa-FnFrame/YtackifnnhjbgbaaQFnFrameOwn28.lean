/- Several texts in one: BlI. -/
import Derived.Test.YtackifnnhjbgbaaQFnFrameOwn27
namespace Go.Proofs.Ytackifnnhjbgbaa
set_option linter.unusedVariables false
set_option linter.unusedSimpArgs false
set_option maxRecDepth 100000
set_option maxHeartbeats 8000000
section
open Go.RowKit Go.Sort
theorem fR (lv : Int) (w : World) : Calls Try.prog 23 #[.int .i64 lv] w fun e w' => e = .returned (.bool (dG lv)) ∧ Below w.heap.size w w' := by
 by_cases k1 : 0 ≤ lv
 ·by_cases k2 : lv ≤ 255
  ·have HV : Hid (dG lv = true) := yz (by unfold dG; simp [k1, k2])
   go_enter Try.func23, Try.ntmps23
   go_wp2_with fail
   go_ret
   exact ⟨by rw [yx HV]; simp [go_sem, k1, k2], Below.refl _ _⟩
  ·have HV : Hid (dG lv = false) := yz (by unfold dG; simp [k1, k2])
   go_enter Try.func23, Try.ntmps23
   go_wp2_with fail
   go_ret
   exact ⟨by rw [yx HV]; simp [go_sem, k1, k2], Below.refl _ _⟩
 ·have HV : Hid (dG lv = false) := yz (by unfold dG; simp [k1])
  go_enter Try.func23, Try.ntmps23
  go_wp2_with fail
  go_ret
  exact ⟨by rw [yx HV]; simp [go_sem, k1], Below.refl _ _⟩
theorem gF (f : Fr) (k n : Nat) (h : k ≤ n) (h8 : 8 < (ak f k).2.length) : 8 < (ak f n).2.length := by
 have := eY f k (n - k)
 rw [show k + (n - k) = n by omega] at this
 omega
theorem bB (wd ht : Int) (s : ByteArray) (lv : Int) (w : World) (hs : s.size ≤ maxLen) :
  Calls Try.prog 10 #[.agg #[.int .i64 wd, .int .i64 ht, .string s], .int .i64 lv] w fun e w' => (∃ v, e = .returned (.agg #[v, .int .i64 (bu wd ht s lv)]) ∧ w'.ownsRow w.heap.size 44 5 v (bp wd ht s lv).length (ba (bp wd ht s lv))) ∧ Below w.heap.size w w' := by
 have A0 := (al w [.int .i64 wd, .int .i64 ht, .string s] 26).alloc (.cells #[.slice none 0 0, .int .i64 0] 34)
 have R0 := al (w.alloc (.cells #[.int .i64 wd, .int .i64 ht, .string s] 26)) [.slice none 0 0, .int .i64 0] 34
 have e1 : (w.alloc (.cells #[.int .i64 wd, .int .i64 ht, .string s] 26)).heap.size = w.heap.size + 1 := by simp
 rw [e1] at R0
 have B0 := be w (.cells #[.int .i64 wd, .int .i64 ht, .string s] 26) (.cells #[.slice none 0 0, .int .i64 0] 34)
 clear e1
 go_enter Try.func10, Try.ntmps10
 go_wp2_with fail
 generalize (w.alloc (.cells #[.int .i64 wd, .int .i64 ht, .string s] 26)).alloc (.cells #[.slice none 0 0, .int .i64 0] 34) = W0 at A0 R0 B0 ⊢
 obtain ⟨ob, hob⟩ : ∃ ob, ob = w.heap.size + 1 := ⟨_, rfl⟩
 obtain ⟨fb, hfb⟩ : ∃ fb, fb = w.heap.size := ⟨_, rfl⟩
 rw [← hob] at R0 ⊢
 rw [← hfb] at A0 ⊢
 have lfb : w.heap.size ≤ fb := by omega
 have lob : w.heap.size ≤ ob := by omega
 have lne : fb ≠ ob := by omega
 clear hob hfb
 refine (bc wd ht s _).mono ?_
 rintro e W1 ⟨rfl, hx⟩
 have A1 := A0.kept hx
 have R1 := R0.kept hx
 have B1 := aj B0 hx
 clear hx A0 R0 B0
 cases k1 : av wd ht s
 case false =>
  have HV := yz (dO (wd := wd) (ht := ht) (s := s) (lv := lv) (by unfold okB; rw [k1]; rfl))
  have r0 := R1.cell 0 _ rfl
  have r1 := R1.cell 1 _ rfl
  have g0 := R1.free 0
  have g1 := R1.free 1
  go_wp2_with fail
  rw [(yx HV).1, (yx HV).2]
  exact bodyPost_ret (v := .agg #[.slice none 0 0, .int .i64 1]) (by simp [results, Try.results10, go_sem, r0, r1]) rfl ⟨⟨_, rfl, World.ownsRow_nil _ _ _ _⟩, (B1.setCell lob _).setCell lob _⟩
 go_wp2_with fail
 refine (fR lv _).mono ?_
 rintro e W2 ⟨rfl, hx⟩
 have A2 := A1.kept hx
 have R2 := R1.kept hx
 have B2 := aj B1 hx
 clear hx A1 R1 B1
 cases k2 : dG lv
 case false =>
  have HV := yz (dO (wd := wd) (ht := ht) (s := s) (lv := lv) (by unfold okB; rw [k1, k2]; rfl))
  have r0 := R2.cell 0 _ rfl
  have r1 := R2.cell 1 _ rfl
  have g0 := R2.free 0
  have g1 := R2.free 1
  go_wp2_with fail
  rw [(yx HV).1, (yx HV).2]
  exact bodyPost_ret (v := .agg #[.slice none 0 0, .int .i64 1]) (by simp [results, Try.results10, go_sem, r0, r1]) rfl ⟨⟨_, rfl, World.ownsRow_nil _ _ _ _⟩, (B2.setCell lob _).setCell lob _⟩
 have hok : okB wd ht s lv = true := by unfold okB; rw [k1, k2]; rfl
 obtain ⟨f1, f2, f3, f4, f5⟩ := au.1 k1
 obtain ⟨wn, hwn⟩ := Int.eq_ofNat_of_zero_le (show 0 ≤ wd by omega)
 obtain ⟨hn, hhn⟩ := Int.eq_ofNat_of_zero_le (show 0 ≤ ht by omega)
 subst hwn hhn
 have hsz : s.size = wn * hn := by
  have : ((s.size : Nat) : Int) = ((wn * hn : Nat) : Int) := by rw [f5]; exact (Int.natCast_mul _ _).symm
  omega
 have HSZ := yz hsz
 have HOK := yz hok
 clear hsz hok k1 k2 f5 hs
 obtain ⟨a0, a1, a2⟩ := cd (A2)
 go_wp2_with fail
 refine (dS wn hn s lv _ (by omega) (by omega) (by omega) (by omega) (yx HSZ)).mono ?_
 rintro e W3 ⟨⟨k, v3, rfl, hk, hkk, hO⟩, hx⟩
 have R3 := R2.kept hx
 have B3 := aj B2 hx
 have hob2 : ob < W2.heap.size := R2.lt
 have hW2 := B2.size
 clear A2 R2 B2 a0 a1 a2 hx
 generalize hfe : aK wn hn s lv = f at *
 have HF := yz hfe
 clear hfe
 have HAL : Hid (cb wn hn s lv = (ak f s.size).2) := yz (by unfold cb; rw [← yx HF]; rfl)
 obtain ⟨a6, cap6, hv6⟩ := aF hO
 subst hv6
 have r0 := R3.cell 0 _ rfl
 have r1 := R3.cell 1 _ rfl
 have g0 := R3.free 0
 have g1 := R3.free 1
 by_cases h8 : (ak f k).2.length ≤ 8
 ·have hke : k = s.size := by omega
  subst hke
  have HV := yz (di (yx HOK) (by rw [yx HAL]; exact h8))
  rw [yx HAL] at HV
  have h8' : ¬ (8 : Int) < ((ak f s.size).2.length : Int) := by omega
  have HO9 := cv hO (show w.heap.size ≤ W2.heap.size by omega)
  have HO10 := fW HO9 ob (by
   intro z e
   have := (hO.lt z e).1
   omega) (.slice a6 (ak f s.size).2.length cap6) (.int .i64 0)
  clear HO9 hO hkk
  generalize ak f s.size = Sf at *
  obtain ⟨T1, S1⟩ := Sf
  simp only at *
  go_wp2_with fail
  rw [(yx HV).1, (yx HV).2]
  exact bodyPost_ret (v := .agg #[.slice a6 S1.length cap6, .int .i64 0]) (by simp [results, Try.results10, go_sem, r0, r1]) rfl ⟨⟨_, rfl, HO10⟩, (B3.setCell lob _).setCell lob _⟩
 ·have HV := yz (eX (yx HOK) (by rw [yx HAL]; have := gF f k s.size hk (by omega); omega))
  have h8' : (8 : Int) < ((ak f k).2.length : Int) := by omega
  clear hO hkk
  generalize ak f k = Sf at *
  obtain ⟨T1, S1⟩ := Sf
  simp only at *
  go_wp2_with fail
  rw [(yx HV).1, (yx HV).2]
  exact bodyPost_ret (v := .agg #[.slice none 0 0, .int .i64 9]) (by simp [results, Try.results10, go_sem, r0, r1]) rfl ⟨⟨_, rfl, World.ownsRow_nil _ _ _ _⟩, (B3.setCell lob _).setCell lob _⟩
end
end Go.Proofs.Ytackifnnhjbgbaa
