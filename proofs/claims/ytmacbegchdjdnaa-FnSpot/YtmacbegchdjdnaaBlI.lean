/- isLevel; BlobsOf, the program's. -/
import Derived.Test.YtmacbegchdjdnaaBlH
namespace Go.Proofs.Ytmacbegchdjdnaa
open Go.RowKit Go.Sort
set_option linter.unusedVariables false
set_option linter.unusedSimpArgs false

set_option maxRecDepth 100000 in
theorem isLevel_any (lv : Int) (w : World) : Calls Try.prog 31 #[.int .i64 lv] w fun e w' => e = .returned (.bool (levB lv)) ∧ Below w.heap.size w w' := by
  by_cases k1 : 0 ≤ lv
  · by_cases k2 : lv ≤ 255
    · have HV : Hid (levB lv = true) := hide (by unfold levB; simp [k1, k2])
      go_enter Try.func31, Try.ntmps31
      go_wp2_with fail
      go_ret
      exact ⟨by rw [unhide HV]; simp [go_sem, k1, k2], Below.refl _ _⟩
    · have HV : Hid (levB lv = false) := hide (by unfold levB; simp [k1, k2])
      go_enter Try.func31, Try.ntmps31
      go_wp2_with fail
      go_ret
      exact ⟨by rw [unhide HV]; simp [go_sem, k1, k2], Below.refl _ _⟩
  · have HV : Hid (levB lv = false) := hide (by unfold levB; simp [k1])
    go_enter Try.func31, Try.ntmps31
    go_wp2_with fail
    go_ret
    exact ⟨by rw [unhide HV]; simp [go_sem, k1], Below.refl _ _⟩
/-- once too many, always too many -/
theorem scan_more (f : Fr) (k n : Nat) (h : k ≤ n) (h8 : 8 < (scanP f k).2.length) : 8 < (scanP f n).2.length := by
  have := scanP_len f k (n - k)
  rw [show k + (n - k) = n by omega] at this
  omega
set_option maxHeartbeats 4000000 in
set_option maxRecDepth 100000 in
theorem implBlobsOf_any (wd ht : Int) (s : ByteArray) (lv : Int) (w : World) (hs : s.size ≤ maxLen) :
    Calls Try.prog 6 #[.agg #[.int .i64 wd, .int .i64 ht, .string s], .int .i64 lv] w fun e w' => (∃ v, e = .returned (.agg #[v, .int .i64 (codeB wd ht s lv)]) ∧ w'.ownsRow w.heap.size 40 5 v (resB wd ht s lv).length (flatB (resB wd ht s lv))) ∧ Below w.heap.size w w' := by
  have A0 := (blk_new w [.int .i64 wd, .int .i64 ht, .string s] 24).alloc (.cells #[.slice none 0 0, .int .i64 0] 29)
  have R0 := blk_new (w.alloc (.cells #[.int .i64 wd, .int .i64 ht, .string s] 24)) [.slice none 0 0, .int .i64 0] 29
  have e1 : (w.alloc (.cells #[.int .i64 wd, .int .i64 ht, .string s] 24)).heap.size = w.heap.size + 1 := by simp
  rw [e1] at R0
  have B0 := below2 w (.cells #[.int .i64 wd, .int .i64 ht, .string s] 24) (.cells #[.slice none 0 0, .int .i64 0] 29)
  clear e1
  go_enter Try.func6, Try.ntmps6
  go_wp2_with fail
  generalize (w.alloc (.cells #[.int .i64 wd, .int .i64 ht, .string s] 24)).alloc (.cells #[.slice none 0 0, .int .i64 0] 29) = W0 at A0 R0 B0 ⊢
  obtain ⟨ob, hob⟩ : ∃ ob, ob = w.heap.size + 1 := ⟨_, rfl⟩
  obtain ⟨fb, hfb⟩ : ∃ fb, fb = w.heap.size := ⟨_, rfl⟩
  rw [← hob] at R0 ⊢
  rw [← hfb] at A0 ⊢
  have lfb : w.heap.size ≤ fb := by omega
  have lob : w.heap.size ≤ ob := by omega
  have lne : fb ≠ ob := by omega
  clear hob hfb
  refine (frameRight_any wd ht s _).mono ?_
  rintro e W1 ⟨rfl, hx⟩
  have A1 := A0.kept hx
  have R1 := R0.kept hx
  have B1 := below_call B0 hx
  clear hx A0 R0 B0
  cases k1 : frameB wd ht s
  case false =>
    have HV := hide (resB_no (wd := wd) (ht := ht) (s := s) (lv := lv) (by unfold okB; rw [k1]; rfl))
    have r0 := R1.cell 0 _ rfl
    have r1 := R1.cell 1 _ rfl
    have g0 := R1.free 0
    have g1 := R1.free 1
    go_wp2_with fail
    rw [(unhide HV).1, (unhide HV).2]
    exact bodyPost_ret (v := .agg #[.slice none 0 0, .int .i64 1]) (by simp [results, Try.results6, go_sem, r0, r1]) rfl ⟨⟨_, rfl, World.ownsRow_nil _ _ _ _⟩, (B1.setCell lob _).setCell lob _⟩
  go_wp2_with fail
  refine (isLevel_any lv _).mono ?_
  rintro e W2 ⟨rfl, hx⟩
  have A2 := A1.kept hx
  have R2 := R1.kept hx
  have B2 := below_call B1 hx
  clear hx A1 R1 B1
  cases k2 : levB lv
  case false =>
    have HV := hide (resB_no (wd := wd) (ht := ht) (s := s) (lv := lv) (by unfold okB; rw [k1, k2]; rfl))
    have r0 := R2.cell 0 _ rfl
    have r1 := R2.cell 1 _ rfl
    have g0 := R2.free 0
    have g1 := R2.free 1
    go_wp2_with fail
    rw [(unhide HV).1, (unhide HV).2]
    exact bodyPost_ret (v := .agg #[.slice none 0 0, .int .i64 1]) (by simp [results, Try.results6, go_sem, r0, r1]) rfl ⟨⟨_, rfl, World.ownsRow_nil _ _ _ _⟩, (B2.setCell lob _).setCell lob _⟩
  have hok : okB wd ht s lv = true := by unfold okB; rw [k1, k2]; rfl
  obtain ⟨f1, f2, f3, f4, f5⟩ := frameB_iff.1 k1
  obtain ⟨wn, hwn⟩ := Int.eq_ofNat_of_zero_le (show 0 ≤ wd by omega)
  obtain ⟨hn, hhn⟩ := Int.eq_ofNat_of_zero_le (show 0 ≤ ht by omega)
  subst hwn hhn
  have hsz : s.size = wn * hn := by
    have : ((s.size : Nat) : Int) = ((wn * hn : Nat) : Int) := by rw [f5]; exact (Int.natCast_mul _ _).symm
    omega
  have HSZ := hide hsz
  have HOK := hide hok
  clear hsz hok k1 k2 f5 hs
  have a0 := A2.cell 0 _ rfl
  have a1 := A2.cell 1 _ rfl
  have a2 := A2.cell 2 _ rfl
  go_wp2_with fail
  refine (blobsAbove_any wn hn s lv _ (by omega) (by omega) (by omega) (by omega) (unhide HSZ)).mono ?_
  rintro e W3 ⟨⟨k, v3, rfl, hk, hkk, hO⟩, hx⟩
  have R3 := R2.kept hx
  have B3 := below_call B2 hx
  have hob2 : ob < W2.heap.size := R2.lt
  have hW2 := B2.size
  clear A2 R2 B2 a0 a1 a2 hx
  generalize hfe : frOf wn hn s lv = f at *
  have HF := hide hfe
  clear hfe
  have HAL : Hid (allB wn hn s lv = (scanP f s.size).2) := hide (by unfold allB; rw [← unhide HF]; rfl)
  obtain ⟨a6, cap6, hv6⟩ := own_slice hO
  subst hv6
  have r0 := R3.cell 0 _ rfl
  have r1 := R3.cell 1 _ rfl
  have g0 := R3.free 0
  have g1 := R3.free 1
  by_cases h8 : (scanP f k).2.length ≤ 8
  · have hke : k = s.size := by omega
    subst hke
    have HV := hide (resB_yes (unhide HOK) (by rw [unhide HAL]; exact h8))
    rw [unhide HAL] at HV
    have h8' : ¬ (8 : Int) < ((scanP f s.size).2.length : Int) := by omega
    have HO9 := own_lower hO (show w.heap.size ≤ W2.heap.size by omega)
    have HO10 := own_set2 HO9 ob (by
      intro z e
      have := (hO.lt z e).1
      omega) (.slice a6 (scanP f s.size).2.length cap6) (.int .i64 0)
    clear HO9 hO hkk
    generalize scanP f s.size = Sf at *
    obtain ⟨T1, S1⟩ := Sf
    simp only at *
    go_wp2_with fail
    rw [(unhide HV).1, (unhide HV).2]
    exact bodyPost_ret (v := .agg #[.slice a6 S1.length cap6, .int .i64 0]) (by simp [results, Try.results6, go_sem, r0, r1]) rfl ⟨⟨_, rfl, HO10⟩, (B3.setCell lob _).setCell lob _⟩
  · have HV := hide (resB_many (unhide HOK) (by rw [unhide HAL]; have := scan_more f k s.size hk (by omega); omega))
    have h8' : (8 : Int) < ((scanP f k).2.length : Int) := by omega
    clear hO hkk
    generalize scanP f k = Sf at *
    obtain ⟨T1, S1⟩ := Sf
    simp only at *
    go_wp2_with fail
    rw [(unhide HV).1, (unhide HV).2]
    exact bodyPost_ret (v := .agg #[.slice none 0 0, .int .i64 9]) (by simp [results, Try.results6, go_sem, r0, r1]) rfl ⟨⟨_, rfl, World.ownsRow_nil _ _ _ _⟩, (B3.setCell lob _).setCell lob _⟩
end Go.Proofs.Ytmacbegchdjdnaa
