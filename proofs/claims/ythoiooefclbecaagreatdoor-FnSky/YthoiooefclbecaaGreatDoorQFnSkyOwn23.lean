/- Several texts in one: SkyK. -/
import Derived.Test.YthoiooefclbecaaGreatDoorQFnSkyOwn17
import Derived.Test.YthoiooefclbecaaGreatDoorQFnSkyOwn6
import Derived.Test.YthoiooefclbecaaGreatDoorQFnSkyOwn7
import Derived.Test.YthoiooefclbecaaGreatDoorQFnSkyOwn9
namespace Go.Proofs.YthoiooefclbecaaGreatDoor
set_option linter.unusedVariables false
set_option linter.unusedSimpArgs false
set_option maxRecDepth 100000
set_option maxHeartbeats 8000000
section
open Go.RowKit Go.Sort
def dN (s : St) : ByteArray := ba s.1 ++ ba s.2.1 ++ ba s.2.2.1 ++ ba s.2.2.2
def bG (L : List St) : Nat → ByteArray
 | 0 => ba (L.length : Int)
 | k + 1 => bG L k ++ dN (stA L k)
def dO (L : List St) : ByteArray := if aB L = true then aL (bG L L.length) else ⟨#[]⟩
theorem kH (s : St) : (dN s).size ≤ 40 := by
 have h1 := (bm s.1).2
 have h2 := (bm s.2.1).2
 have h3 := (bm s.2.2.1).2
 have h4 := (bm s.2.2.2).2
 unfold dN
 simp only [ByteArray.size_append]
 omega
theorem cm (L : List St) (k : Nat) : (bG L k).size ≤ 10 + 40 * k := by
 induction k with
 | zero => exact (bm _).2
 | succ k ih =>
  have := kH (stA L k)
  unfold bG
  rw [ByteArray.size_append]
  omega
theorem iE {L : List St} {i : Nat} {s1 s2 s3 s4 : Int} (hs : stA L i = (s1, s2, s3, s4)) (h : cx L i = true) : (1 ≤ s1 ∧ s1 ≤ 9999) ∧ (-10 ≤ s2 ∧ s2 ≤ 10) ∧ (-10 ≤ s3 ∧ s3 ≤ 10) ∧ (-10 ≤ s4 ∧ s4 ≤ 10) := by
 have hsm := ck h
 unfold cx idB at h
 rw [hs] at h hsm
 simp only [Bool.and_eq_true, decide_eq_true_eq] at h
 have hw := aH.1 (bt hsm).2
 exact ⟨⟨h.1.1.1.1, h.1.1.1.2⟩, hw.1, hw.2.1, hw.2.2⟩
theorem mD (s1 s2 s3 s4 : Int) (w : World) (h1 : 1 ≤ s1 ∧ s1 ≤ 9999) (h2 : -10 ≤ s2 ∧ s2 ≤ 10) (h3 : -10 ≤ s3 ∧ s3 ≤ 10) (h4 : -10 ≤ s4 ∧ s4 ≤ 10) :
  Calls Tryz.prog 34 #[.agg #[.int .i64 s1, .int .i64 s2, .int .i64 s3, .int .i64 s4]] w fun e w' => e = .returned (.string (dN (s1, s2, s3, s4))) ∧ Below w.heap.size w w' := by
 have HN := yz (bQ w (s1, s2, s3, s4) 62)
 have HB := yz (am w (.cells #[.int .i64 s1, .int .i64 s2, .int .i64 s3, .int .i64 s4] 62))
 have z1 := (bm s1).2
 have z2 := (bm s2).2
 have z3 := (bm s3).2
 have z4 := (bm s4).2
 go_enter Tryz.func34, Tryz.ntmps34
 go_wp2_with fail
 refine (cb s1 _ (by omega) (by omega)).mono ?_
 rintro e w1 ⟨rfl, hx⟩
 have HB1 := yz (ak (yy HB) hx)
 have HN1 := yz ((yy HN).kept (by simp) hx)
 clear hx HB HN
 obtain ⟨_, c1, c2, c3⟩ := yy HN1
 simp only [Nat.zero_add] at c1 c2 c3
 go_wp2_with fail
 refine (iH s2 s3 s4 _).mono ?_
 rintro e w2 ⟨rfl, hx⟩
 have HB2 := yz (ak (yy HB1) hx)
 clear hx HB1 HN1 c1 c2 c3
 have i0 : ∀ w : World, (Instr.index 104 (.agg #[.int .i64 s2, .int .i64 s3, .int .i64 s4]) (.int .i64 0)).run Tryz.prog w = .ok (.int .i64 s2) w := fun _ => by kernel_rfl
 have i1 : ∀ w : World, (Instr.index 104 (.agg #[.int .i64 s2, .int .i64 s3, .int .i64 s4]) (.int .i64 1)).run Tryz.prog w = .ok (.int .i64 s3) w := fun _ => by kernel_rfl
 have i2 : ∀ w : World, (Instr.index 104 (.agg #[.int .i64 s2, .int .i64 s3, .int .i64 s4]) (.int .i64 2)).run Tryz.prog w = .ok (.int .i64 s4) w := fun _ => by kernel_rfl
 go_wp2_with fail
 refine wp_loop_rounds 4 ?_
 rw [rounds_succ]
 go_wp2_with fail
 refine (cb s2 _ (by omega) (by omega)).mono ?_
 rintro e w3 ⟨rfl, hx⟩
 have HB3 := yz (ak (yy HB2) hx)
 clear hx HB2
 go_wp2_with fail
 refine (cH _ _ _ (by omega) (by omega)).mono ?_
 rintro e w4 ⟨rfl, hx⟩
 have HB4 := yz (ak (yy HB3) hx)
 clear hx HB3
 go_wp2_with fail
 rw [rounds_succ]
 go_wp2_with fail
 refine (cb s3 _ (by omega) (by omega)).mono ?_
 rintro e w5 ⟨rfl, hx⟩
 have HB5 := yz (ak (yy HB4) hx)
 clear hx HB4
 go_wp2_with fail
 refine (cH _ _ _ (by rw [ByteArray.size_append]; omega) (by omega)).mono ?_
 rintro e w6 ⟨rfl, hx⟩
 have HB6 := yz (ak (yy HB5) hx)
 clear hx HB5
 go_wp2_with fail
 rw [rounds_succ]
 go_wp2_with fail
 refine (cb s4 _ (by omega) (by omega)).mono ?_
 rintro e w7 ⟨rfl, hx⟩
 have HB7 := yz (ak (yy HB6) hx)
 clear hx HB6
 go_wp2_with fail
 refine (cH _ _ _ (by rw [ByteArray.size_append, ByteArray.size_append]; omega) (by omega)).mono ?_
 rintro e w8 ⟨rfl, hx⟩
 have HB8 := yz (ak (yy HB7) hx)
 clear hx HB7
 go_wp2_with fail
 rw [rounds_succ]
 go_wp2_with fail
 go_ret
 exact ⟨rfl, yy HB8⟩
theorem mh (L : List St) (a : Option Addr) (c : Nat) (w : World) (hk : aB L = true) (hS : aA w a L L.length) :
  Calls Tryz.prog 49 #[.slice a L.length c] w fun e w' => e = .returned (.string (bG L L.length)) ∧ Below w.heap.size w w' := by
 obtain ⟨h12, hok⟩ := aQ hk
 have HO := yz hok
 clear hok hk
 have HZ : Hid (bG L 0 = ba (L.length : Int)) := yz rfl
 generalize L.length = n at *
 go_enter Tryz.func49, Tryz.ntmps49
 go_wp2_with fail
 refine (co (n : Int) _ (by omega) (by omega)).mono ?_
 rintro e w1 ⟨rfl, hx⟩
 rw [← yy HZ]
 have HB0 := yz hx
 clear hx HZ
 rcases hS with rfl | ⟨b, o, rfl, hb, hc⟩
 ·go_wp2_with fail
  refine wp_loop_rounds 1 ?_
  rw [rounds_succ]
  go_wp2_with fail
  go_ret
  exact ⟨rfl, yy HB0⟩
 have HC := yz hc
 clear hc
 go_wp2_with fail
 go_loopw [3, 4] (fun t i wr => ∃ k : Nat, k ≤ n ∧ i = .int .i64 k ∧ t = .string (bG L k) ∧ Hid (Below w.heap.size w wr)) (fun _ i _ => n - (intOf i).toNat)
 case atStart => exact ⟨0, by omega, rfl, rfl, HB0⟩
 case round =>
  obtain ⟨k, hk, rfl, rfl, HB⟩ := hrel
  by_cases hkn : k < n
  ·obtain ⟨⟨s1, s2, s3, s4⟩, hs⟩ : ∃ s, stA L k = s := ⟨_, rfl⟩
   have hst := ((yy HC) k hkn).kept hb (yy HB)
   rw [hs] at hst
   obtain ⟨c0, c1, c2, c3⟩ := hst
   have hbd := iE hs ((yy HO) k hkn)
   have r0 := cell_regrown c0
   have r1 := cell_regrown c1
   have r2 := cell_regrown c2
   have r3 := cell_regrown c3
   have hkn2 : (k : Int) < (n : Int) := by omega
   have n1 := yz (fun W => co s1 W (by omega) (by omega))
   have n2 := yz (fun W => co s2 W (by omega) (by omega))
   have n3 := yz (fun W => co s3 W (by omega) (by omega))
   have n4 := yz (fun W => co s4 W (by omega) (by omega))
   have HE : Hid (bG L (k + 1) = bG L k ++ ba s1 ++ ba s2 ++ ba s3 ++ ba s4) := yz (by
    show bG L k ++ dN (stA L k) = _
    rw [hs]
    unfold dN
    simp only [ByteArray.append_assoc])
   have z0 := cm L k
   have z1 := (bm s1).2
   have z2 := (bm s2).2
   have z3 := (bm s3).2
   have z4 := (bm s4).2
   generalize ba s1 = m1 at *
   generalize ba s2 = m2 at *
   generalize ba s3 = m3 at *
   generalize ba s4 = m4 at *
   generalize bG L k = t at *
   have y1 : ¬ t.size + m1.size > 9223372036854775807 := by omega
   have y2 : ¬ t.size + m1.size + m2.size > 9223372036854775807 := by omega
   have y3 : ¬ t.size + m1.size + m2.size + m3.size > 9223372036854775807 := by omega
   have y4 : ¬ t.size + m1.size + m2.size + m3.size + m4.size > 9223372036854775807 := by omega
   clear c0 c1 c2 c3 hs hbd z0 z1 z2 z3 z4
   go_wp2_with fail
   refine wp_region_quiet_below (by kernel_rfl) (by kernel_rfl) ?_
   repeat (go_big_quiet_step (first | (with_reducible exact Calls.regrown_of (yy n1 _)) | (with_reducible exact Calls.regrown_of (yy n2 _)) | (with_reducible exact Calls.regrown_of (yy n3 _)) | (with_reducible exact Calls.regrown_of (yy n4 _))))
   refine wpQuiet_nil ?_
   intro _ hw'
   obtain ⟨⟨dq, osq⟩, hw''⟩ := hw'
   subst hw''
   have hx := ak (yy HB) (below_regrown wr dq osq)
   generalize grow (redrawn wr dq) osq = W2 at hx ⊢
   have HB2 := yz hx
   clear hx r0 r1 r2 r3 n1 n2 n3 n4 HB y1 y2 y3 y4
   go_wp2_with fail
   go_roundw
   case rel => exact ⟨k + 1, by omega, by go_num, by rw [yy HE], HB2⟩
   case measure => simp [intOf]; omega
  ·have hkn' : k = n := by omega
   subst hkn'
   go_wp2_with fail
   go_ret
   exact ⟨rfl, yy HB⟩
end
end Go.Proofs.YthoiooefclbecaaGreatDoor
