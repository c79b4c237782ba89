/- The bytes of a list of stars: the program's and the specification's. -/
import Derived.Test.YtijpnnooenpjoagDoorSkyG
import Derived.Test.YtijpnnooenpjoagDoorPutNum
import Derived.Test.YtijpnnooenpjoagDoorJoin
import Derived.Test.YtijpnnooenpjoagDoorSeal
namespace Go.Proofs.YtijpnnooenpjoagDoor
open Go.RowKit Go.Sort
set_option linter.unusedVariables false

def starB (s : St) : ByteArray := numS s.1 ++ numS s.2.1 ++ numS s.2.2.1 ++ numS s.2.2.2
def skyTo (L : List St) : Nat → ByteArray
  | 0 => numS (L.length : Int)
  | k + 1 => skyTo L k ++ starB (stA L k)
def skyS (L : List St) : ByteArray := if skyB L = true then sealOf (skyTo L L.length) else ⟨#[]⟩
theorem starB_size (s : St) : (starB s).size ≤ 40 := by
  have h1 := (numS_size s.1).2
  have h2 := (numS_size s.2.1).2
  have h3 := (numS_size s.2.2.1).2
  have h4 := (numS_size s.2.2.2).2
  unfold starB
  simp only [ByteArray.size_append]
  omega
theorem skyTo_size (L : List St) (k : Nat) : (skyTo L k).size ≤ 10 + 40 * k := by
  induction k with
  | zero => exact (numS_size _).2
  | succ k ih =>
    have := starB_size (stA L k)
    unfold skyTo
    rw [ByteArray.size_append]
    omega
theorem ok_bounds {L : List St} {i : Nat} {s1 s2 s3 s4 : Int} (hs : stA L i = (s1, s2, s3, s4)) (h : okAt L i = true) : (1 ≤ s1 ∧ s1 ≤ 9999) ∧ (-10 ≤ s2 ∧ s2 ≤ 10) ∧ (-10 ≤ s3 ∧ s3 ≤ 10) ∧ (-10 ≤ s4 ∧ s4 ≤ 10) := by
  have hsm := ok_small h
  unfold okAt idB at h
  rw [hs] at h hsm
  simp only [Bool.and_eq_true, decide_eq_true_eq] at h
  have hw := withinB_iff.1 (small_iff hsm).2
  exact ⟨⟨h.1.1.1.1, h.1.1.1.2⟩, hw.1, hw.2.1, hw.2.2⟩

set_option maxHeartbeats 1000000 in
set_option maxRecDepth 100000 in
theorem starText_any (s1 s2 s3 s4 : Int) (w : World) (h1 : 1 ≤ s1 ∧ s1 ≤ 9999) (h2 : -10 ≤ s2 ∧ s2 ≤ 10) (h3 : -10 ≤ s3 ∧ s3 ≤ 10) (h4 : -10 ≤ s4 ∧ s4 ≤ 10) :
    Calls Tryd.prog 53 #[.agg #[.int .i64 s1, .int .i64 s2, .int .i64 s3, .int .i64 s4]] w fun e w' => e = .returned (.string (starB (s1, s2, s3, s4))) ∧ Below w.heap.size w w' := by
  have HN := hide (starAt_new w (s1, s2, s3, s4) 60)
  have HB := hide (below1 w (.cells #[.int .i64 s1, .int .i64 s2, .int .i64 s3, .int .i64 s4] 60))
  have z1 := (numS_size s1).2
  have z2 := (numS_size s2).2
  have z3 := (numS_size s3).2
  have z4 := (numS_size s4).2
  go_enter Tryd.func53, Tryd.ntmps53
  go_wp2_with fail
  refine (implPutNum_any s1 _ (by omega) (by omega)).mono ?_
  rintro e w1 ⟨rfl, hx⟩
  have HB1 := hide (below_call (unhide HB) hx)
  have HN1 := hide ((unhide HN).kept (by simp) hx)
  clear hx HB HN
  obtain ⟨_, c1, c2, c3⟩ := unhide HN1
  simp only [Nat.zero_add] at c1 c2 c3
  go_wp2_with fail
  refine (parts_any s2 s3 s4 _).mono ?_
  rintro e w2 ⟨rfl, hx⟩
  have HB2 := hide (below_call (unhide HB1) hx)
  clear hx HB1 HN1 c1 c2 c3
  have i0 : ∀ w : World, (Instr.index 120 (.agg #[.int .i64 s2, .int .i64 s3, .int .i64 s4]) (.int .i64 0)).run Tryd.prog w = .ok (.int .i64 s2) w := fun _ => by kernel_rfl
  have i1 : ∀ w : World, (Instr.index 120 (.agg #[.int .i64 s2, .int .i64 s3, .int .i64 s4]) (.int .i64 1)).run Tryd.prog w = .ok (.int .i64 s3) w := fun _ => by kernel_rfl
  have i2 : ∀ w : World, (Instr.index 120 (.agg #[.int .i64 s2, .int .i64 s3, .int .i64 s4]) (.int .i64 2)).run Tryd.prog w = .ok (.int .i64 s4) w := fun _ => by kernel_rfl
  go_wp2_with fail
  refine wp_loop_rounds 4 ?_
  rw [rounds_succ]
  go_wp2_with fail
  refine (implPutNum_any s2 _ (by omega) (by omega)).mono ?_
  rintro e w3 ⟨rfl, hx⟩
  have HB3 := hide (below_call (unhide HB2) hx)
  clear hx HB2
  go_wp2_with fail
  refine (joinTexts_any _ _ _ (by omega) (by omega)).mono ?_
  rintro e w4 ⟨rfl, hx⟩
  have HB4 := hide (below_call (unhide HB3) hx)
  clear hx HB3
  go_wp2_with fail
  rw [rounds_succ]
  go_wp2_with fail
  refine (implPutNum_any s3 _ (by omega) (by omega)).mono ?_
  rintro e w5 ⟨rfl, hx⟩
  have HB5 := hide (below_call (unhide HB4) hx)
  clear hx HB4
  go_wp2_with fail
  refine (joinTexts_any _ _ _ (by rw [ByteArray.size_append]; omega) (by omega)).mono ?_
  rintro e w6 ⟨rfl, hx⟩
  have HB6 := hide (below_call (unhide HB5) hx)
  clear hx HB5
  go_wp2_with fail
  rw [rounds_succ]
  go_wp2_with fail
  refine (implPutNum_any s4 _ (by omega) (by omega)).mono ?_
  rintro e w7 ⟨rfl, hx⟩
  have HB7 := hide (below_call (unhide HB6) hx)
  clear hx HB6
  go_wp2_with fail
  refine (joinTexts_any _ _ _ (by rw [ByteArray.size_append, ByteArray.size_append]; omega) (by omega)).mono ?_
  rintro e w8 ⟨rfl, hx⟩
  have HB8 := hide (below_call (unhide HB7) hx)
  clear hx HB7
  go_wp2_with fail
  rw [rounds_succ]
  go_wp2_with fail
  go_ret
  exact ⟨rfl, unhide HB8⟩

set_option maxHeartbeats 1000000 in
set_option maxRecDepth 100000 in
theorem l04Bytes_any (L : List St) (a : Option Addr) (c : Nat) (w : World) (hk : skyB L = true) (hS : Stars w a L L.length) :
    Calls Tryd.prog 50 #[.slice a L.length c] w fun e w' => e = .returned (.string (skyTo L L.length)) ∧ Below w.heap.size w w' := by
  obtain ⟨h12, hok⟩ := sky_ok hk
  have HO := hide hok
  clear hok hk
  have HZ : Hid (skyTo L 0 = numS (L.length : Int)) := hide rfl
  generalize L.length = n at *
  go_enter Tryd.func50, Tryd.ntmps50
  go_wp2_with fail
  refine (specPutNum_any (n : Int) _ (by omega) (by omega)).mono ?_
  rintro e w1 ⟨rfl, hx⟩
  rw [← unhide HZ]
  have HB0 := hide hx
  clear hx HZ
  rcases hS with rfl | ⟨b, o, rfl, hb, hc⟩
  · go_wp2_with fail
    refine wp_loop_rounds 1 ?_
    rw [rounds_succ]
    go_wp2_with fail
    go_ret
    exact ⟨rfl, unhide HB0⟩
  have HC := hide hc
  clear hc
  go_wp2_with fail
  go_loopw [3, 4] (fun t i wr => ∃ k : Nat, k ≤ n ∧ i = .int .i64 k ∧ t = .string (skyTo L k) ∧ Hid (Below w.heap.size w wr)) (fun _ i _ => n - (intOf i).toNat)
  case atStart => exact ⟨0, by omega, rfl, rfl, HB0⟩
  case round =>
    obtain ⟨k, hk, rfl, rfl, HB⟩ := hrel
    by_cases hkn : k < n
    · obtain ⟨⟨s1, s2, s3, s4⟩, hs⟩ : ∃ s, stA L k = s := ⟨_, rfl⟩
      have hst := ((unhide HC) k hkn).kept hb (unhide HB)
      rw [hs] at hst
      obtain ⟨c0, c1, c2, c3⟩ := hst
      have hbd := ok_bounds hs ((unhide HO) k hkn)
      have r0 := cell_regrown c0
      have r1 := cell_regrown c1
      have r2 := cell_regrown c2
      have r3 := cell_regrown c3
      have hkn2 : (k : Int) < (n : Int) := by omega
      have n1 := hide (fun W => specPutNum_any s1 W (by omega) (by omega))
      have n2 := hide (fun W => specPutNum_any s2 W (by omega) (by omega))
      have n3 := hide (fun W => specPutNum_any s3 W (by omega) (by omega))
      have n4 := hide (fun W => specPutNum_any s4 W (by omega) (by omega))
      have HE : Hid (skyTo L (k + 1) = skyTo L k ++ numS s1 ++ numS s2 ++ numS s3 ++ numS s4) := hide (by
        show skyTo L k ++ starB (stA L k) = _
        rw [hs]
        unfold starB
        simp only [ByteArray.append_assoc])
      have z0 := skyTo_size L k
      have z1 := (numS_size s1).2
      have z2 := (numS_size s2).2
      have z3 := (numS_size s3).2
      have z4 := (numS_size s4).2
      generalize numS s1 = m1 at *
      generalize numS s2 = m2 at *
      generalize numS s3 = m3 at *
      generalize numS s4 = m4 at *
      generalize skyTo L k = t at *
      have y1 : ¬ t.size + m1.size > 9223372036854775807 := by omega
      have y2 : ¬ t.size + m1.size + m2.size > 9223372036854775807 := by omega
      have y3 : ¬ t.size + m1.size + m2.size + m3.size > 9223372036854775807 := by omega
      have y4 : ¬ t.size + m1.size + m2.size + m3.size + m4.size > 9223372036854775807 := by omega
      clear c0 c1 c2 c3 hs hbd z0 z1 z2 z3 z4
      go_wp2_with fail
      refine wp_region_quiet_below (by kernel_rfl) (by kernel_rfl) ?_
      repeat (go_big_quiet_step (first | (with_reducible exact Calls.regrown_of (unhide n1 _)) | (with_reducible exact Calls.regrown_of (unhide n2 _)) | (with_reducible exact Calls.regrown_of (unhide n3 _)) | (with_reducible exact Calls.regrown_of (unhide n4 _))))
      refine wpQuiet_nil ?_
      intro _ hw'
      obtain ⟨⟨dq, osq⟩, hw''⟩ := hw'
      subst hw''
      have hx := below_call (unhide HB) (below_regrown wr dq osq)
      generalize grow (redrawn wr dq) osq = W2 at hx ⊢
      have HB2 := hide hx
      clear hx r0 r1 r2 r3 n1 n2 n3 n4 HB y1 y2 y3 y4
      go_wp2_with fail
      go_roundw
      case rel => exact ⟨k + 1, by omega, by go_num, by rw [unhide HE], HB2⟩
      case measure => simp [intOf]; omega
    · have hkn' : k = n := by omega
      subst hkn'
      go_wp2_with fail
      go_ret
      exact ⟨rfl, unhide HB⟩
end Go.Proofs.YtijpnnooenpjoagDoor
