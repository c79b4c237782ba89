/- CommandBytes: the specification's. -/
import Derived.Test.YtnffnjljjecphaaDoorCmH
namespace Go.Proofs.YtnffnjljjecphaaDoor
open Go.RowKit Go.Sort
set_option linter.unusedVariables false
set_option linter.unusedSimpArgs false

theorem nums4 (a b c d : Int) (t : ByteArray) : t ++ numS a ++ numS b ++ numS c ++ numS d = t ++ numsTo [a, b, c, d] 4 := by
  have e : numsTo [a, b, c, d] 4 = numS a ++ numS b ++ numS c ++ numS d := by
    simp only [numsTo, List.getD_cons_zero, List.getD_cons_succ]
    have e0 : (⟨#[]⟩ : ByteArray) ++ numS a = numS a := ByteArray.empty_append
    rw [e0]
  rw [e]
  simp only [ByteArray.append_assoc]
theorem nums3 (a b c : Int) : numS a ++ numS b ++ numS c = numsTo [a, b, c] 3 := by
  simp only [numsTo, List.getD_cons_zero, List.getD_cons_succ]
  have e0 : (⟨#[]⟩ : ByteArray) ++ numS a = numS a := ByteArray.empty_append
  rw [e0]
set_option maxHeartbeats 1000000 in
set_option maxRecDepth 100000 in
theorem l08Vec_any (x y z : Int) (w : World) (h1 : okI x) (h2 : okI y) (h3 : okI z) : Calls Tryd.prog 39 #[.agg #[.int .i64 x, .int .i64 y, .int .i64 z]] w fun e w' => e = .returned (.string (numsTo [x, y, z] 3)) ∧ Below w.heap.size w w' := by
  have HO := hide (nums3 x y z)
  have A0 := blk_new w [.int .i64 x, .int .i64 y, .int .i64 z] 75
  have B1 := hide (below1 w (.cells #[.int .i64 x, .int .i64 y, .int .i64 z] 75))
  have n1 := hide (fun W => specPutNum_any x W h1.1 h1.2)
  have n2 := hide (fun W => specPutNum_any y W h2.1 h2.2)
  have n3 := hide (fun W => specPutNum_any z W h3.1 h3.2)
  have z1 := (numS_size x).2
  have z2 := (numS_size y).2
  have z3 := (numS_size z).2
  generalize numS x = m1 at *
  generalize numS y = m2 at *
  generalize numS z = m3 at *
  generalize numsTo [x, y, z] 3 = tx at *
  have y2 : ¬ m1.size + m2.size > 9223372036854775807 := by omega
  have y3 : ¬ m1.size + m2.size + m3.size > 9223372036854775807 := by omega
  have r0 := cell_regrown (A0.cell 0 _ rfl)
  have r1 := cell_regrown (A0.cell 1 _ rfl)
  have r2 := cell_regrown (A0.cell 2 _ rfl)
  clear A0 z1 z2 z3 h1 h2 h3
  go_enter Tryd.func39, Tryd.ntmps39
  go_wp2_with fail
  refine wp_region_quiet_below (by kernel_rfl) (by kernel_rfl) ?_
  repeat (go_big_quiet_step (first | (with_reducible exact Calls.regrown_of (unhide n1 _)) | (with_reducible exact Calls.regrown_of (unhide n2 _)) | (with_reducible exact Calls.regrown_of (unhide n3 _))))
  refine wpQuiet_nil ?_
  intro _ hw'
  obtain ⟨⟨dq, osq⟩, hw''⟩ := hw'
  subst hw''
  have hx := below_call (unhide B1) (below_regrown _ dq osq)
  generalize grow (redrawn _ dq) osq = W2 at hx ⊢
  have HB2 := hide hx
  clear hx r0 r1 r2 n1 n2 n3 B1
  go_wp2_with fail
  go_ret
  exact ⟨by rw [← unhide HO]; rfl, unhide HB2⟩

set_option maxHeartbeats 1000000 in
set_option maxRecDepth 100000 in
theorem specCB_no (S : List D3) (kind A B C D wd ht lv fo : Int) (px : ByteArray) (a : Option Addr) (c : Nat) (w : World) (hn : S.length ≤ 1048576) (hS : Dirs w a S S.length) (hk : cmdB ⟨kind, A, B, C, D, S, wd, ht, px, lv, fo⟩ = false) :
    Calls Tryd.prog 12 #[.agg #[.int .i64 kind, .int .i64 A, .int .i64 B, .int .i64 C, .int .i64 D, .slice a S.length c, .int .i64 wd, .int .i64 ht, .string px, .int .i64 lv, .int .i64 fo]] w fun e w' => e = .returned (.string (cmdS ⟨kind, A, B, C, D, S, wd, ht, px, lv, fo⟩)) ∧ Below w.heap.size w w' := by
  have B0 := hide (below1 w (.cells #[.int .i64 kind, .int .i64 A, .int .i64 B, .int .i64 C, .int .i64 D, .slice a S.length c, .int .i64 wd, .int .i64 ht, .string px, .int .i64 lv, .int .i64 fo] 35))
  have cR := hide (specCommandRight_any S kind A B C D wd ht lv fo px a c _ hn (hS.kept (unhide B0)))
  rw [hk] at cR
  have HO : Hid (cmdS ⟨kind, A, B, C, D, S, wd, ht, px, lv, fo⟩ = ⟨#[]⟩) := hide (by unfold cmdS; rw [hk]; rfl)
  clear hS hk
  go_enter Tryd.func12, Tryd.ntmps12
  go_wp2_with fail
  refine (unhide cR).mono ?_
  rintro e w1 ⟨rfl, hx⟩
  have B1 := hide (below_call (unhide B0) hx)
  clear hx B0 cR
  go_wp2_with fail
  go_ret
  exact ⟨by rw [unhide HO]; rfl, unhide B1⟩

set_option maxHeartbeats 4000000 in
set_option maxRecDepth 100000 in
theorem specCB_1 (S : List D3) (A B C D wd ht lv fo : Int) (px : ByteArray) (a : Option Addr) (c : Nat) (w : World) (hn : S.length ≤ 1048576) (hS : Dirs w a S S.length) (hk : cmdB ⟨1, A, B, C, D, S, wd, ht, px, lv, fo⟩ = true) :
    Calls Tryd.prog 12 #[.agg #[.int .i64 1, .int .i64 A, .int .i64 B, .int .i64 C, .int .i64 D, .slice a S.length c, .int .i64 wd, .int .i64 ht, .string px, .int .i64 lv, .int .i64 fo]] w fun e w' => e = .returned (.string (cmdS ⟨1, A, B, C, D, S, wd, ht, px, lv, fo⟩)) ∧ Below w.heap.size w w' := by
  have B0 := hide (below1 w (.cells #[.int .i64 1, .int .i64 A, .int .i64 B, .int .i64 C, .int .i64 D, .slice a S.length c, .int .i64 wd, .int .i64 ht, .string px, .int .i64 lv, .int .i64 fo] 35))
  have A0 := hide (blk_new w [.int .i64 1, .int .i64 A, .int .i64 B, .int .i64 C, .int .i64 D, .slice a S.length c, .int .i64 wd, .int .i64 ht, .string px, .int .i64 lv, .int .i64 fo] 35)
  have cR := hide (specCommandRight_any S 1 A B C D wd ht lv fo px a c _ hn (hS.kept (unhide B0)))
  rw [hk] at cR
  have HO : Hid (cmdS ⟨1, A, B, C, D, S, wd, ht, px, lv, fo⟩ = sealOf (numS 1 ++ ⟨#[]⟩)) := hide (by unfold cmdS; rw [hk]; rfl)
  have e0 : numS 1 ++ (⟨#[]⟩ : ByteArray) = numS 1 := ByteArray.append_empty
  rw [e0] at HO
  clear hS hk e0
  go_enter Tryd.func12, Tryd.ntmps12
  go_wp2_with fail
  refine (unhide cR).mono ?_
  rintro e w1 ⟨rfl, hx⟩
  have B1 := hide (below_call (unhide B0) hx)
  have A1 := hide ((unhide A0).kept hx)
  clear hx B0 A0 cR
  have q0 := (unhide A1).cell 0 _ rfl
  have q1 := (unhide A1).cell 1 _ rfl
  have q2 := (unhide A1).cell 2 _ rfl
  have q3 := (unhide A1).cell 3 _ rfl
  have q4 := (unhide A1).cell 4 _ rfl
  have q5 := (unhide A1).cell 5 _ rfl
  have q6 := (unhide A1).cell 6 _ rfl
  have q7 := (unhide A1).cell 7 _ rfl
  have q8 := (unhide A1).cell 8 _ rfl
  have q9 := (unhide A1).cell 9 _ rfl
  have q10 := (unhide A1).cell 10 _ rfl
  go_wp2_with fail
  refine (specPutNum_any 1 _ (by omega) (by omega)).mono ?_
  rintro e w2 ⟨rfl, hx⟩
  have B2 := hide (below_call (unhide B1) hx)
  have A2 := hide ((unhide A1).kept hx)
  clear hx B1 A1 q0 q1 q2 q3 q4 q5 q6 q7 q8 q9 q10
  have zk := (numS_size 1).2
  generalize numS 1 = m0 at *
  have q0 := (unhide A2).cell 0 _ rfl
  have q1 := (unhide A2).cell 1 _ rfl
  have q2 := (unhide A2).cell 2 _ rfl
  have q3 := (unhide A2).cell 3 _ rfl
  have q4 := (unhide A2).cell 4 _ rfl
  have q5 := (unhide A2).cell 5 _ rfl
  have q6 := (unhide A2).cell 6 _ rfl
  have q7 := (unhide A2).cell 7 _ rfl
  have q8 := (unhide A2).cell 8 _ rfl
  have q9 := (unhide A2).cell 9 _ rfl
  have q10 := (unhide A2).cell 10 _ rfl
  go_wp2_with fail
  refine (specSeal_any m0 _ (by omega)).mono ?_
  rintro e w3 ⟨rfl, hx⟩
  have B3 := hide (below_call (unhide B2) hx)
  clear hx
  go_wp2_with fail
  go_ret
  exact ⟨by rw [unhide HO]; rfl, unhide B3⟩
set_option maxHeartbeats 4000000 in
set_option maxRecDepth 100000 in
theorem specCB_2 (S : List D3) (A B C D wd ht lv fo : Int) (px : ByteArray) (a : Option Addr) (c : Nat) (w : World) (hn : S.length ≤ 1048576) (hS : Dirs w a S S.length) (hk : cmdB ⟨2, A, B, C, D, S, wd, ht, px, lv, fo⟩ = true) :
    Calls Tryd.prog 12 #[.agg #[.int .i64 2, .int .i64 A, .int .i64 B, .int .i64 C, .int .i64 D, .slice a S.length c, .int .i64 wd, .int .i64 ht, .string px, .int .i64 lv, .int .i64 fo]] w fun e w' => e = .returned (.string (cmdS ⟨2, A, B, C, D, S, wd, ht, px, lv, fo⟩)) ∧ Below w.heap.size w w' := by
  have B0 := hide (below1 w (.cells #[.int .i64 2, .int .i64 A, .int .i64 B, .int .i64 C, .int .i64 D, .slice a S.length c, .int .i64 wd, .int .i64 ht, .string px, .int .i64 lv, .int .i64 fo] 35))
  have A0 := hide (blk_new w [.int .i64 2, .int .i64 A, .int .i64 B, .int .i64 C, .int .i64 D, .slice a S.length c, .int .i64 wd, .int .i64 ht, .string px, .int .i64 lv, .int .i64 fo] 35)
  have cR := hide (specCommandRight_any S 2 A B C D wd ht lv fo px a c _ hn (hS.kept (unhide B0)))
  rw [hk] at cR
  have HO : Hid (cmdS ⟨2, A, B, C, D, S, wd, ht, px, lv, fo⟩ = sealOf (numS 2 ++ numsTo [A, B, C, D] 4)) := hide (by unfold cmdS; rw [hk]; rfl)
  have hr := okI_turn (right_2 hk)
  have HE := hide (nums4 A B C D (numS 2))
  clear hS hk
  go_enter Tryd.func12, Tryd.ntmps12
  go_wp2_with fail
  refine (unhide cR).mono ?_
  rintro e w1 ⟨rfl, hx⟩
  have B1 := hide (below_call (unhide B0) hx)
  have A1 := hide ((unhide A0).kept hx)
  clear hx B0 A0 cR
  have q0 := (unhide A1).cell 0 _ rfl
  have q1 := (unhide A1).cell 1 _ rfl
  have q2 := (unhide A1).cell 2 _ rfl
  have q3 := (unhide A1).cell 3 _ rfl
  have q4 := (unhide A1).cell 4 _ rfl
  have q5 := (unhide A1).cell 5 _ rfl
  have q6 := (unhide A1).cell 6 _ rfl
  have q7 := (unhide A1).cell 7 _ rfl
  have q8 := (unhide A1).cell 8 _ rfl
  have q9 := (unhide A1).cell 9 _ rfl
  have q10 := (unhide A1).cell 10 _ rfl
  go_wp2_with fail
  refine (specPutNum_any 2 _ (by omega) (by omega)).mono ?_
  rintro e w2 ⟨rfl, hx⟩
  have B2 := hide (below_call (unhide B1) hx)
  have A2 := hide ((unhide A1).kept hx)
  clear hx B1 A1 q0 q1 q2 q3 q4 q5 q6 q7 q8 q9 q10
  have zk := (numS_size 2).2
  have n1 := hide (fun W => specPutNum_any A W (by omega) (by omega))
  have z1 := (numS_size A).2
  have n2 := hide (fun W => specPutNum_any B W (by omega) (by omega))
  have z2 := (numS_size B).2
  have n3 := hide (fun W => specPutNum_any C W (by omega) (by omega))
  have z3 := (numS_size C).2
  have n4 := hide (fun W => specPutNum_any D W (by omega) (by omega))
  have z4 := (numS_size D).2
  rw [← unhide HE] at HO
  generalize numS 2 = m0 at *
  generalize numS A = m1 at *
  generalize numS B = m2 at *
  generalize numS C = m3 at *
  generalize numS D = m4 at *
  have y1 : ¬ m0.size + m1.size > 9223372036854775807 := by omega
  have y2 : ¬ m0.size + m1.size + m2.size > 9223372036854775807 := by omega
  have y3 : ¬ m0.size + m1.size + m2.size + m3.size > 9223372036854775807 := by omega
  have y4 : ¬ m0.size + m1.size + m2.size + m3.size + m4.size > 9223372036854775807 := by omega
  have cL := hide (fun W => specSeal_any (m0 ++ m1 ++ m2 ++ m3 ++ m4) W (by simp only [ByteArray.size_append]; omega))
  generalize hsx : sealOf (m0 ++ m1 ++ m2 ++ m3 ++ m4) = sx at *
  clear hsx HE hr
  have p0 := (unhide A2).cell 0 _ rfl
  have r1 := cell_regrown ((unhide A2).cell 1 _ rfl)
  have r2 := cell_regrown ((unhide A2).cell 2 _ rfl)
  have r3 := cell_regrown ((unhide A2).cell 3 _ rfl)
  have r4 := cell_regrown ((unhide A2).cell 4 _ rfl)
  go_wp2_with fail
  refine wp_region_quiet_below (by kernel_rfl) (by kernel_rfl) ?_
  repeat (go_big_quiet_step (first | (with_reducible exact Calls.regrown_of (unhide n1 _)) | (with_reducible exact Calls.regrown_of (unhide n2 _)) | (with_reducible exact Calls.regrown_of (unhide n3 _)) | (with_reducible exact Calls.regrown_of (unhide n4 _))))
  refine wpQuiet_nil ?_
  intro _ hw'
  obtain ⟨⟨dq, osq⟩, hw''⟩ := hw'
  subst hw''
  have hx := below_call (unhide B2) (below_regrown w2 dq osq)
  generalize grow (redrawn w2 dq) osq = W2 at hx ⊢
  have B3 := hide hx
  clear hx r1 r2 r3 r4 p0
  go_wp2_with fail
  refine (unhide cL _).mono ?_
  rintro e w3 ⟨rfl, hx⟩
  have B4 := hide (below_call (unhide B3) hx)
  clear hx
  go_wp2_with fail
  go_ret
  exact ⟨by rw [unhide HO]; rfl, unhide B4⟩
set_option maxHeartbeats 4000000 in
set_option maxRecDepth 100000 in
theorem specCB_3 (S : List D3) (A B C D wd ht lv fo : Int) (px : ByteArray) (a : Option Addr) (c : Nat) (w : World) (hn : S.length ≤ 1048576) (hS : Dirs w a S S.length) (hk : cmdB ⟨3, A, B, C, D, S, wd, ht, px, lv, fo⟩ = true) :
    Calls Tryd.prog 12 #[.agg #[.int .i64 3, .int .i64 A, .int .i64 B, .int .i64 C, .int .i64 D, .slice a S.length c, .int .i64 wd, .int .i64 ht, .string px, .int .i64 lv, .int .i64 fo]] w fun e w' => e = .returned (.string (cmdS ⟨3, A, B, C, D, S, wd, ht, px, lv, fo⟩)) ∧ Below w.heap.size w w' := by
  have B0 := hide (below1 w (.cells #[.int .i64 3, .int .i64 A, .int .i64 B, .int .i64 C, .int .i64 D, .slice a S.length c, .int .i64 wd, .int .i64 ht, .string px, .int .i64 lv, .int .i64 fo] 35))
  have A0 := hide (blk_new w [.int .i64 3, .int .i64 A, .int .i64 B, .int .i64 C, .int .i64 D, .slice a S.length c, .int .i64 wd, .int .i64 ht, .string px, .int .i64 lv, .int .i64 fo] 35)
  have cR := hide (specCommandRight_any S 3 A B C D wd ht lv fo px a c _ hn (hS.kept (unhide B0)))
  rw [hk] at cR
  have HO : Hid (cmdS ⟨3, A, B, C, D, S, wd, ht, px, lv, fo⟩ = sealOf (numS 3 ++ lookTo S S.length)) := hide (by unfold cmdS; rw [hk]; rfl)
  have hsp := right_3 hk
  have h6 := (spots_ok hsp).1
  have HW := hide (fun (k : Nat) (hk : k < S.length) => spot_wide hsp hk)
  have HZ : Hid (lookTo S 0 = numS (S.length : Int)) := hide rfl
  have HS := hide hS
  clear hS hk hsp
  have hA := (unhide A0)
  clear hA
  generalize S.length = n at *
  go_enter Tryd.func12, Tryd.ntmps12
  go_wp2_with fail
  refine (unhide cR).mono ?_
  rintro e w1 ⟨rfl, hx⟩
  have B1 := hide (below_call (unhide B0) hx)
  have A1 := hide ((unhide A0).kept hx)
  clear hx B0 A0 cR
  have q0 := (unhide A1).cell 0 _ rfl
  have q1 := (unhide A1).cell 1 _ rfl
  have q2 := (unhide A1).cell 2 _ rfl
  have q3 := (unhide A1).cell 3 _ rfl
  have q4 := (unhide A1).cell 4 _ rfl
  have q5 := (unhide A1).cell 5 _ rfl
  have q6 := (unhide A1).cell 6 _ rfl
  have q7 := (unhide A1).cell 7 _ rfl
  have q8 := (unhide A1).cell 8 _ rfl
  have q9 := (unhide A1).cell 9 _ rfl
  have q10 := (unhide A1).cell 10 _ rfl
  go_wp2_with fail
  refine (specPutNum_any 3 _ (by omega) (by omega)).mono ?_
  rintro e w2 ⟨rfl, hx⟩
  have B2 := hide (below_call (unhide B1) hx)
  have A2 := hide ((unhide A1).kept hx)
  clear hx B1 A1 q0 q1 q2 q3 q4 q5 q6 q7 q8 q9 q10
  have zk := (numS_size 3).2
  generalize numS 3 = m0 at *
  have q0 := (unhide A2).cell 0 _ rfl
  have q1 := (unhide A2).cell 1 _ rfl
  have q2 := (unhide A2).cell 2 _ rfl
  have q3 := (unhide A2).cell 3 _ rfl
  have q4 := (unhide A2).cell 4 _ rfl
  have q5 := (unhide A2).cell 5 _ rfl
  have q6 := (unhide A2).cell 6 _ rfl
  have q7 := (unhide A2).cell 7 _ rfl
  have q8 := (unhide A2).cell 8 _ rfl
  have q9 := (unhide A2).cell 9 _ rfl
  have q10 := (unhide A2).cell 10 _ rfl
  go_wp2_with fail
  refine (specPutNum_any (n : Int) _ (by omega) (by omega)).mono ?_
  rintro e w3 ⟨rfl, hx⟩
  rw [← unhide HZ]
  have B3 := hide (below_call (unhide B2) hx)
  have A3 := hide ((unhide A2).kept hx)
  clear hx B2 A2 q0 q1 q2 q3 q4 q5 q6 q7 q8 q9 q10
  have z0 := lookTo_size S 0
  have y0 : ¬ m0.size + (lookTo S 0).size > 9223372036854775807 := by omega
  have S3 := hide ((unhide HS).kept (unhide B3))
  have q0 := (unhide A3).cell 0 _ rfl
  have q1 := (unhide A3).cell 1 _ rfl
  have q2 := (unhide A3).cell 2 _ rfl
  have q3 := (unhide A3).cell 3 _ rfl
  have q4 := (unhide A3).cell 4 _ rfl
  have q5 := (unhide A3).cell 5 _ rfl
  have q6 := (unhide A3).cell 6 _ rfl
  have q7 := (unhide A3).cell 7 _ rfl
  have q8 := (unhide A3).cell 8 _ rfl
  have q9 := (unhide A3).cell 9 _ rfl
  have q10 := (unhide A3).cell 10 _ rfl
  rcases unhide S3 with rfl | ⟨b, o, rfl, hb, hc⟩
  · have cL := hide (fun W => specSeal_any (m0 ++ lookTo S 0) W (by rw [ByteArray.size_append]; omega))
    generalize lookTo S 0 = t0 at *
    go_wp2_with fail
    refine wp_loop_rounds 1 ?_
    rw [rounds_succ]
    go_wp2_with fail
    refine (unhide cL _).mono ?_
    rintro e w4 ⟨rfl, hx⟩
    have B4 := hide (below_call (unhide B3) hx)
    clear hx
    go_wp2_with fail
    go_ret
    exact ⟨by rw [unhide HO]; rfl, unhide B4⟩
  have HC := hide hc
  clear hc S3
  go_wp2_with fail
  clear q0 q1 q2 q3 q4 q5 q6 q7 q8 q9 q10
  go_loopw [3, 4] (fun t i wr => ∃ k : Nat, k ≤ n ∧ i = .int .i64 k ∧ t = .string (m0 ++ lookTo S k) ∧ Hid (Below w3.heap.size w3 wr)) (fun _ i _ => n - (intOf i).toNat)
  case atStart => exact ⟨0, by omega, rfl, rfl, hide (Below.refl _ _)⟩
  case round =>
    obtain ⟨k, hk, rfl, rfl, HB⟩ := hrel
    have a5 := ((unhide A3).kept (unhide HB)).cell 5 _ rfl
    have a0 := ((unhide A3).kept (unhide HB)).cell 0 _ rfl
    by_cases hkn : k < n
    · obtain ⟨c0, c1, c2⟩ := ((unhide HC) k hkn).kept hb (unhide HB)
      have hkn2 : (k : Int) < (n : Int) := by omega
      obtain ⟨g1, g2, g3⟩ := unhide HW k hkn
      have HE : Hid (m0 ++ lookTo S (k + 1) = m0 ++ lookTo S k ++ numsTo [(vA S k).1, (vA S k).2.1, (vA S k).2.2] 3) := hide (by show m0 ++ (lookTo S k ++ _) = _; rw [ByteArray.append_assoc])
      have z0 := lookTo_size S k
      generalize (vA S k).1 = x0 at *
      generalize (vA S k).2.1 = x1 at *
      generalize (vA S k).2.2 = x2 at *
      have z1 := numsTo_size [x0, x1, x2] 3
      have cV := hide (fun W => l08Vec_any x0 x1 x2 W (by unfold okI; omega) (by unfold okI; omega) (by unfold okI; omega))
      generalize numsTo [x0, x1, x2] 3 = tx at *
      have zt : (m0 ++ lookTo S k).size ≤ 400 := by rw [ByteArray.size_append]; omega
      generalize m0 ++ lookTo S k = t at *
      have y1 : ¬ t.size + tx.size > 9223372036854775807 := by omega
      clear g1 g2 g3 zt
      go_wp2_with fail
      refine (unhide cV _).mono ?_
      rintro e w4 ⟨rfl, hx⟩
      have HB1 := hide (below_call (unhide HB) hx)
      clear hx HB c0 c1 c2 cV a5 a0
      go_wp2_with fail
      rw [← unhide HE]
      go_roundw
      case rel => exact ⟨k + 1, by omega, by go_num, rfl, HB1⟩
      case measure => simp [intOf]; omega
    · have hkn' : k = n := by omega
      subst hkn'
      have z0 := lookTo_size S k
      have cL := hide (fun W => specSeal_any (m0 ++ lookTo S k) W (by rw [ByteArray.size_append]; omega))
      generalize m0 ++ lookTo S k = t at *
      go_wp2_with fail
      refine (unhide cL _).mono ?_
      rintro e w4 ⟨rfl, hx⟩
      have B4 := hide (below_call (below_call (unhide B3) (unhide HB)) hx)
      clear hx
      go_wp2_with fail
      go_ret
      exact ⟨by rw [unhide HO]; rfl, unhide B4⟩
set_option maxHeartbeats 4000000 in
set_option maxRecDepth 100000 in
theorem specCB_4 (S : List D3) (A B C D wd ht lv fo : Int) (px : ByteArray) (a : Option Addr) (c : Nat) (w : World) (hn : S.length ≤ 1048576) (hS : Dirs w a S S.length) (hk : cmdB ⟨4, A, B, C, D, S, wd, ht, px, lv, fo⟩ = true) :
    Calls Tryd.prog 12 #[.agg #[.int .i64 4, .int .i64 A, .int .i64 B, .int .i64 C, .int .i64 D, .slice a S.length c, .int .i64 wd, .int .i64 ht, .string px, .int .i64 lv, .int .i64 fo]] w fun e w' => e = .returned (.string (cmdS ⟨4, A, B, C, D, S, wd, ht, px, lv, fo⟩)) ∧ Below w.heap.size w w' := by
  have B0 := hide (below1 w (.cells #[.int .i64 4, .int .i64 A, .int .i64 B, .int .i64 C, .int .i64 D, .slice a S.length c, .int .i64 wd, .int .i64 ht, .string px, .int .i64 lv, .int .i64 fo] 35))
  have A0 := hide (blk_new w [.int .i64 4, .int .i64 A, .int .i64 B, .int .i64 C, .int .i64 D, .slice a S.length c, .int .i64 wd, .int .i64 ht, .string px, .int .i64 lv, .int .i64 fo] 35)
  have cR := hide (specCommandRight_any S 4 A B C D wd ht lv fo px a c _ hn (hS.kept (unhide B0)))
  rw [hk] at cR
  have HO : Hid (cmdS ⟨4, A, B, C, D, S, wd, ht, px, lv, fo⟩ = sealOf (numS 4 ++ (numsTo [wd, ht, lv, fo] 4 ++ textS px))) := hide (by unfold cmdS; rw [hk]; rfl)
  have hr := right_4 hk
  have hb := frameB_iff.1 hr.1
  have hl := span_iff.1 hr.2.1
  have hf := span_iff.1 hr.2.2
  have hpx : px.size ≤ 192 := by
    have : wd * ht ≤ 16 * 12 := Int.mul_le_mul hb.2.1 hb.2.2.2.1 (by omega) (by omega)
    omega
  have HE := hide (nums4 wd ht lv fo (numS 4))
  have HE2 : Hid (numS 4 ++ (numsTo [wd, ht, lv, fo] 4 ++ textS px) = numS 4 ++ numS wd ++ numS ht ++ numS lv ++ numS fo ++ textS px) := hide (by rw [← ByteArray.append_assoc, ← unhide HE])
  rw [unhide HE2] at HO
  clear hS hk hr HE HE2
  go_enter Tryd.func12, Tryd.ntmps12
  go_wp2_with fail
  refine (unhide cR).mono ?_
  rintro e w1 ⟨rfl, hx⟩
  have B1 := hide (below_call (unhide B0) hx)
  have A1 := hide ((unhide A0).kept hx)
  clear hx B0 A0 cR
  have q0 := (unhide A1).cell 0 _ rfl
  have q1 := (unhide A1).cell 1 _ rfl
  have q2 := (unhide A1).cell 2 _ rfl
  have q3 := (unhide A1).cell 3 _ rfl
  have q4 := (unhide A1).cell 4 _ rfl
  have q5 := (unhide A1).cell 5 _ rfl
  have q6 := (unhide A1).cell 6 _ rfl
  have q7 := (unhide A1).cell 7 _ rfl
  have q8 := (unhide A1).cell 8 _ rfl
  have q9 := (unhide A1).cell 9 _ rfl
  have q10 := (unhide A1).cell 10 _ rfl
  go_wp2_with fail
  refine (specPutNum_any 4 _ (by omega) (by omega)).mono ?_
  rintro e w2 ⟨rfl, hx⟩
  have B2 := hide (below_call (unhide B1) hx)
  have A2 := hide ((unhide A1).kept hx)
  clear hx B1 A1 q0 q1 q2 q3 q4 q5 q6 q7 q8 q9 q10
  have zk := (numS_size 4).2
  have n1 := hide (fun W => specPutNum_any wd W (by omega) (by omega))
  have z1 := (numS_size wd).2
  have n2 := hide (fun W => specPutNum_any ht W (by omega) (by omega))
  have z2 := (numS_size ht).2
  have n3 := hide (fun W => specPutNum_any lv W (by omega) (by omega))
  have z3 := (numS_size lv).2
  have n4 := hide (fun W => specPutNum_any fo W (by omega) (by omega))
  have z4 := (numS_size fo).2
  have n5 := hide (fun W => specPutText_any px W (by omega))
  have z5 := textS_size px
  generalize numS 4 = m0 at *
  generalize numS wd = m1 at *
  generalize numS ht = m2 at *
  generalize numS lv = m3 at *
  generalize numS fo = m4 at *
  generalize textS px = m5 at *
  have y1 : ¬ m0.size + m1.size > 9223372036854775807 := by omega
  have y2 : ¬ m0.size + m1.size + m2.size > 9223372036854775807 := by omega
  have y3 : ¬ m0.size + m1.size + m2.size + m3.size > 9223372036854775807 := by omega
  have y4 : ¬ m0.size + m1.size + m2.size + m3.size + m4.size > 9223372036854775807 := by omega
  have y5 : ¬ m0.size + m1.size + m2.size + m3.size + m4.size + m5.size > 9223372036854775807 := by omega
  have cL := hide (fun W => specSeal_any (m0 ++ m1 ++ m2 ++ m3 ++ m4 ++ m5) W (by simp only [ByteArray.size_append]; omega))
  generalize hsx : sealOf (m0 ++ m1 ++ m2 ++ m3 ++ m4 ++ m5) = sx at *
  clear hsx hb hl hf hpx
  have p0 := (unhide A2).cell 0 _ rfl
  have r6 := cell_regrown ((unhide A2).cell 6 _ rfl)
  have r7 := cell_regrown ((unhide A2).cell 7 _ rfl)
  have r8 := cell_regrown ((unhide A2).cell 8 _ rfl)
  have r9 := cell_regrown ((unhide A2).cell 9 _ rfl)
  have r10 := cell_regrown ((unhide A2).cell 10 _ rfl)
  go_wp2_with fail
  refine wp_region_quiet_below (by kernel_rfl) (by kernel_rfl) ?_
  repeat (go_big_quiet_step (first | (with_reducible exact Calls.regrown_of (unhide n1 _)) | (with_reducible exact Calls.regrown_of (unhide n2 _)) | (with_reducible exact Calls.regrown_of (unhide n3 _)) | (with_reducible exact Calls.regrown_of (unhide n4 _)) | (with_reducible exact Calls.regrown_of (unhide n5 _))))
  refine wpQuiet_nil ?_
  intro _ hw'
  obtain ⟨⟨dq, osq⟩, hw''⟩ := hw'
  subst hw''
  have hx := below_call (unhide B2) (below_regrown w2 dq osq)
  generalize grow (redrawn w2 dq) osq = W2 at hx ⊢
  have B3 := hide hx
  clear hx r6 r7 r8 r9 r10 p0
  go_wp2_with fail
  refine (unhide cL _).mono ?_
  rintro e w3 ⟨rfl, hx⟩
  have B4 := hide (below_call (unhide B3) hx)
  clear hx
  go_wp2_with fail
  go_ret
  exact ⟨by rw [unhide HO]; rfl, unhide B4⟩
theorem specCommandBytes_any (S : List D3) (kind A B C D wd ht lv fo : Int) (px : ByteArray) (a : Option Addr) (c : Nat) (w : World) (hn : S.length ≤ 1048576) (hS : Dirs w a S S.length) :
    Calls Tryd.prog 12 #[.agg #[.int .i64 kind, .int .i64 A, .int .i64 B, .int .i64 C, .int .i64 D, .slice a S.length c, .int .i64 wd, .int .i64 ht, .string px, .int .i64 lv, .int .i64 fo]] w fun e w' => e = .returned (.string (cmdS ⟨kind, A, B, C, D, S, wd, ht, px, lv, fo⟩)) ∧ Below w.heap.size w w' := by
  cases hk : cmdB ⟨kind, A, B, C, D, S, wd, ht, px, lv, fo⟩
  · exact specCB_no S kind A B C D wd ht lv fo px a c w hn hS hk
  · rcases right_n hk with h | h | h | h
    · obtain rfl : kind = 1 := h
      exact specCB_1 S A B C D wd ht lv fo px a c w hn hS hk
    · obtain rfl : kind = 2 := h
      exact specCB_2 S A B C D wd ht lv fo px a c w hn hS hk
    · obtain rfl : kind = 3 := h
      exact specCB_3 S A B C D wd ht lv fo px a c w hn hS hk
    · obtain rfl : kind = 4 := h
      exact specCB_4 S A B C D wd ht lv fo px a c w hn hS hk
end Go.Proofs.YtnffnjljjecphaaDoor
