/- What a tracker tells of itself: numbers one behind the other, under a seal; the program's and the specification's. -/
import Derived.Test.YtnffnjljjecphaaDoorModF
import Derived.Test.YtnffnjljjecphaaDoorSkyK
namespace Go.Proofs.YtnffnjljjecphaaDoor
open Go.RowKit Go.Sort
set_option linter.unusedVariables false

/-- the first k numbers, one behind the other -/
def numsTo (ids : List Int) : Nat → ByteArray
  | 0 => ⟨#[]⟩
  | k + 1 => numsTo ids k ++ numS (ids.getD k 0)
theorem numsTo_size (ids : List Int) (k : Nat) : (numsTo ids k).size ≤ 10 * k := by
  induction k with
  | zero => exact Nat.le_refl _
  | succ k ih =>
    have := (numS_size (ids.getD k 0)).2
    unfold numsTo
    rw [ByteArray.size_append]
    omega
/-- the numbers lie at a -/
def NumL (w : World) (a : Option Addr) (ids : List Int) : Prop := ∃ b, a = some ⟨b, 0, none⟩ ∧ b < w.heap.size ∧ ∀ i, i < ids.length → w.cell? ⟨b, i, none⟩ = some (.int .i64 (ids.getD i 0))
def okI (x : Int) : Prop := -9223372036854775808 ≤ x ∧ x ≤ 9223372036854775807

set_option maxHeartbeats 1000000 in
set_option maxRecDepth 100000 in
theorem numbersText_any (ids : List Int) (a : Option Addr) (c : Nat) (w : World) (hl : ids.length ≤ 100) (hb : ∀ i, i < ids.length → okI (ids.getD i 0)) (hI : NumL w a ids) :
    Calls Tryd.prog 60 #[.slice a ids.length c] w fun e w' => e = .returned (.string (numsTo ids ids.length)) ∧ Below w.heap.size w w' := by
  obtain ⟨b, rfl, hlt, hc⟩ := hI
  have HC := hide hc
  have HK := hide hb
  clear hc hb
  generalize ids.length = n at *
  go_enter Tryd.func60, Tryd.ntmps60
  go_wp2_with fail
  go_loopw [3, 8] (fun t i wr => ∃ k : Nat, k ≤ n ∧ i = .int .i64 k ∧ t = .string (numsTo ids k) ∧ Hid (Below w.heap.size w wr)) (fun _ i _ => n - (intOf i).toNat)
  case atStart => exact ⟨0, by omega, rfl, rfl, hide (Below.refl _ _)⟩
  case round =>
    obtain ⟨k, hk, rfl, rfl, HB⟩ := hrel
    by_cases hkn : k < n
    · have c0 : wr.cell? ⟨b, k, none⟩ = some (.int .i64 (ids.getD k 0)) := by rw [(unhide HB).cell (p := ⟨b, k, none⟩) hlt]; exact unhide HC k hkn
      have hok := unhide HK k hkn
      have hkn2 : (k : Int) < (n : Int) := by omega
      have HE : Hid (numsTo ids (k + 1) = numsTo ids k ++ numS (ids.getD k 0)) := hide rfl
      have z0 := numsTo_size ids k
      have z1 := (numS_size (ids.getD k 0)).2
      generalize ids.getD k 0 = x at *
      generalize numsTo ids k = t at *
      go_wp2_with fail
      refine (implPutNum_any x _ hok.1 hok.2).mono ?_
      rintro e w1 ⟨rfl, hx⟩
      have HB1 := hide (below_call (unhide HB) hx)
      clear hx HB c0
      go_wp2_with fail
      refine (joinTexts_any _ _ _ (by omega) (by omega)).mono ?_
      rintro e w2 ⟨rfl, hx⟩
      have HB2 := hide (below_call (unhide HB1) hx)
      clear hx HB1
      rw [← unhide HE]
      go_wp2_with fail
      go_roundw
      case rel => exact ⟨k + 1, by omega, by go_num, rfl, HB2⟩
      case measure => simp [intOf]; omega
    · have hkn' : k = n := by omega
      subst hkn'
      go_wp2_with fail
      go_ret
      exact ⟨rfl, unhide HB⟩
theorem numL_new (w : World) (xs : List Int) (t : TypeId) : NumL (w.alloc (.cells (xs.map (fun z => Value.int .i64 z)).toArray t)) (some ⟨w.heap.size, 0, none⟩) xs := by
  refine ⟨_, rfl, by simp, fun i hi => ?_⟩
  rw [cell_of_row _ _ i _ _ _ (heap_alloc_new w _)]
  rw [List.getElem?_toArray, List.getElem?_map, List.getElem?_eq_getElem hi, List.getD_eq_getElem?_getD, List.getElem?_eq_getElem hi]
  rfl

def tellR (t : Tk) : ByteArray := numS t.mode ++ numS t.A ++ numS t.B ++ numS t.C ++ numS t.D ++ numS t.coast ++ numS t.fr
def tellS (t : Tk) : ByteArray := if trackB t = true then sealOf (tellR t) else ⟨#[]⟩
theorem tellR_nums (t : Tk) : numsTo [t.mode, t.A, t.B, t.C, t.D, t.coast, t.fr] 7 = tellR t := by
  unfold tellR
  simp only [numsTo, List.getD_cons_zero, List.getD_cons_succ]
  have e : (⟨#[]⟩ : ByteArray) ++ numS t.mode = numS t.mode := ByteArray.empty_append
  rw [e]
theorem tellR_size (t : Tk) : (tellR t).size ≤ 70 := by
  rw [← tellR_nums]
  exact numsTo_size _ 7
theorem track_bounds {t : Tk} (h : trackB t = true) : (0 ≤ t.mode ∧ t.mode ≤ 2) ∧ ((-5 ≤ t.A ∧ t.A ≤ 5) ∧ (-5 ≤ t.B ∧ t.B ≤ 5) ∧ (-5 ≤ t.C ∧ t.C ≤ 5) ∧ (-5 ≤ t.D ∧ t.D ≤ 5)) ∧ (0 ≤ t.coast ∧ t.coast ≤ 5) ∧ (0 ≤ t.fr ∧ t.fr ≤ 1000000) := by
  unfold trackB headB at h
  simp only [Bool.and_eq_true] at h
  obtain ⟨⟨⟨hs, hl⟩, hf⟩, hm⟩ := h
  rw [span_iff] at hl hf
  have hT : ∀ {a b c d : Int}, rightT a b c d = true → (-5 ≤ a ∧ a ≤ 5) ∧ (-5 ≤ b ∧ b ≤ 5) ∧ (-5 ≤ c ∧ c ≤ 5) ∧ (-5 ≤ d ∧ d ≤ 5) := fun h => inT_iff.1 (rightT_iff.1 h).1
  unfold modeB at hm
  split at hm
  · rename_i h0
    simp only [Bool.and_eq_true, eqT, decide_eq_true_eq] at hm
    refine ⟨by omega, ?_, by omega, hf⟩
    obtain ⟨⟨e1, e2, e3, e4⟩, _⟩ := hm
    refine ⟨?_, ?_, ?_, ?_⟩ <;> omega
  · split at hm
    · simp only [Bool.and_eq_true, decide_eq_true_eq] at hm
      exact ⟨by omega, hT hm.1, by omega, hf⟩
    · split at hm
      · simp only [Bool.and_eq_true, span_iff] at hm
        exact ⟨by omega, hT hm.1, by omega, hf⟩
      · cases hm

set_option maxHeartbeats 2000000 in
set_option maxRecDepth 100000 in
theorem implTell_any (L : List St) (lim mode A B C D coast fr : Int) (a : Option Addr) (c : Nat) (p : Addr) (w : World) (hn : L.length ≤ 1048576) (hcap : L.length ≤ c) (hc9 : c ≤ 9223372036854775807) (hS : Stars w a L L.length) (hE : ErrSky p w) :
    Calls Tryd.prog 22 #[.agg #[.slice a L.length c, .int .i64 lim, .int .i64 mode, .int .i64 A, .int .i64 B, .int .i64 C, .int .i64 D, .int .i64 coast, .int .i64 fr]] w fun e w' => e = .returned (.string (tellS ⟨L, lim, mode, A, B, C, D, coast, fr⟩)) ∧ Below w.heap.size w w' := by
  have B0 := hide (below1 w (.cells #[.slice a L.length c, .int .i64 lim, .int .i64 mode, .int .i64 A, .int .i64 B, .int .i64 C, .int .i64 D, .int .i64 coast, .int .i64 fr] 53))
  have T0 := hide (tkAt_new w (.slice a L.length c) lim mode A B C D coast fr 53)
  have cR := hide (implTrack_any L lim mode A B C D coast fr a c p (w.alloc (.cells #[.slice a L.length c, .int .i64 lim, .int .i64 mode, .int .i64 A, .int .i64 B, .int .i64 C, .int .i64 D, .int .i64 coast, .int .i64 fr] 53)) hn hcap hc9 (hS.kept (unhide B0)) (hE.kept (unhide B0)))
  clear hS hE
  go_enter Tryd.func22, Tryd.ntmps22
  go_wp2_with fail
  refine (unhide cR).mono ?_
  rintro e w1 ⟨rfl, hx⟩
  have B1 := hide (below_call (unhide B0) hx)
  have T1 := hide ((unhide T0).kept hx)
  clear hx B0 T0 cR
  cases hk : trackB ⟨L, lim, mode, A, B, C, D, coast, fr⟩
  · have HO : Hid (tellS ⟨L, lim, mode, A, B, C, D, coast, fr⟩ = ⟨#[]⟩) := hide (by unfold tellS; rw [hk]; rfl)
    clear hk
    go_wp2_with fail
    go_ret
    exact ⟨by rw [unhide HO]; rfl, unhide B1⟩
  have HO : Hid (tellS ⟨L, lim, mode, A, B, C, D, coast, fr⟩ = sealOf (numsTo [mode, A, B, C, D, coast, fr] 7)) := hide (by unfold tellS; rw [hk]; exact congrArg sealOf (tellR_nums ⟨L, lim, mode, A, B, C, D, coast, fr⟩).symm)
  have hbd := track_bounds hk
  dsimp only at hbd
  clear hk
  have HN : Hid (NumL (w1.alloc (.cells #[.int .i64 mode, .int .i64 A, .int .i64 B, .int .i64 C, .int .i64 D, .int .i64 coast, .int .i64 fr] 2)) (some ⟨w1.heap.size, 0, none⟩) [mode, A, B, C, D, coast, fr]) := hide (numL_new w1 [mode, A, B, C, D, coast, fr] 2)
  have B2 := hide (below_call (unhide B1) (below1 w1 (.cells #[.int .i64 mode, .int .i64 A, .int .i64 B, .int .i64 C, .int .i64 D, .int .i64 coast, .int .i64 fr] 2)))
  have cN := hide (numbersText_any [mode, A, B, C, D, coast, fr] (some ⟨w1.heap.size, 0, none⟩) 7 _ (by simp) (fun i hi => by
    have hi' : i < 7 := hi
    have hc : i = 0 ∨ i = 1 ∨ i = 2 ∨ i = 3 ∨ i = 4 ∨ i = 5 ∨ i = 6 := by omega
    unfold okI
    rcases hc with rfl | rfl | rfl | rfl | rfl | rfl | rfl <;> simp only [List.getD_cons_zero, List.getD_cons_succ] <;> omega) (unhide HN))
  have hz := numsTo_size [mode, A, B, C, D, coast, fr] 7
  have e7 : [mode, A, B, C, D, coast, fr].length = 7 := rfl
  rw [e7] at cN
  generalize numsTo [mode, A, B, C, D, coast, fr] 7 = tx at *
  clear hbd HN e7
  obtain ⟨q0, q1, q2, q3, q4, q5, q6, q7, q8⟩ := unhide T1
  go_wp2_with fail
  clear q0 q1 q2 q3 q4 q5 q6 q7 q8
  refine (unhide cN).mono ?_
  rintro e w2 ⟨rfl, hx⟩
  have B3 := hide (below_call (unhide B2) hx)
  clear hx B2 cN T1
  go_wp2_with fail
  refine (implSeal_any tx _ (by omega)).mono ?_
  rintro e w3 ⟨rfl, hx⟩
  have B4 := hide (below_call (unhide B3) hx)
  clear hx B3
  go_wp2_with fail
  go_ret
  exact ⟨by rw [unhide HO]; rfl, unhide B4⟩

set_option maxHeartbeats 2000000 in
set_option maxRecDepth 100000 in
theorem specTell_any (L : List St) (lim mode A B C D coast fr : Int) (a : Option Addr) (c : Nat) (w : World) (hn : L.length ≤ 1048576) (hS : Stars w a L L.length) :
    Calls Tryd.prog 20 #[.agg #[.slice a L.length c, .int .i64 lim, .int .i64 mode, .int .i64 A, .int .i64 B, .int .i64 C, .int .i64 D, .int .i64 coast, .int .i64 fr]] w fun e w' => e = .returned (.string (tellS ⟨L, lim, mode, A, B, C, D, coast, fr⟩)) ∧ Below w.heap.size w w' := by
  have B0 := hide (below1 w (.cells #[.slice a L.length c, .int .i64 lim, .int .i64 mode, .int .i64 A, .int .i64 B, .int .i64 C, .int .i64 D, .int .i64 coast, .int .i64 fr] 53))
  have T0 := hide (tkAt_new w (.slice a L.length c) lim mode A B C D coast fr 53)
  have cR := hide (specTrack_any L lim mode A B C D coast fr a c (w.alloc (.cells #[.slice a L.length c, .int .i64 lim, .int .i64 mode, .int .i64 A, .int .i64 B, .int .i64 C, .int .i64 D, .int .i64 coast, .int .i64 fr] 53)) hn (hS.kept (unhide B0)))
  clear hS
  go_enter Tryd.func20, Tryd.ntmps20
  go_wp2_with fail
  refine (unhide cR).mono ?_
  rintro e w1 ⟨rfl, hx⟩
  have B1 := hide (below_call (unhide B0) hx)
  have T1 := hide ((unhide T0).kept hx)
  clear hx B0 T0 cR
  cases hk : trackB ⟨L, lim, mode, A, B, C, D, coast, fr⟩
  · have HO : Hid (tellS ⟨L, lim, mode, A, B, C, D, coast, fr⟩ = ⟨#[]⟩) := hide (by unfold tellS; rw [hk]; rfl)
    clear hk
    go_wp2_with fail
    go_ret
    exact ⟨by rw [unhide HO]; rfl, unhide B1⟩
  have HO : Hid (tellS ⟨L, lim, mode, A, B, C, D, coast, fr⟩ = sealOf (numS mode ++ numS A ++ numS B ++ numS C ++ numS D ++ numS coast ++ numS fr)) := hide (by unfold tellS; rw [hk]; rfl)
  have hbd := track_bounds hk
  dsimp only at hbd
  clear hk
  have n1 := hide (fun W => specPutNum_any mode W (by omega) (by omega))
  have n2 := hide (fun W => specPutNum_any A W (by omega) (by omega))
  have n3 := hide (fun W => specPutNum_any B W (by omega) (by omega))
  have n4 := hide (fun W => specPutNum_any C W (by omega) (by omega))
  have n5 := hide (fun W => specPutNum_any D W (by omega) (by omega))
  have n6 := hide (fun W => specPutNum_any coast W (by omega) (by omega))
  have n7 := hide (fun W => specPutNum_any fr W (by omega) (by omega))
  have z1 := (numS_size mode).2
  have z2 := (numS_size A).2
  have z3 := (numS_size B).2
  have z4 := (numS_size C).2
  have z5 := (numS_size D).2
  have z6 := (numS_size coast).2
  have z7 := (numS_size fr).2
  generalize numS mode = m1 at *
  generalize numS A = m2 at *
  generalize numS B = m3 at *
  generalize numS C = m4 at *
  generalize numS D = m5 at *
  generalize numS coast = m6 at *
  generalize numS fr = m7 at *
  have y2 : ¬ m1.size + m2.size > 9223372036854775807 := by omega
  have y3 : ¬ m1.size + m2.size + m3.size > 9223372036854775807 := by omega
  have y4 : ¬ m1.size + m2.size + m3.size + m4.size > 9223372036854775807 := by omega
  have y5 : ¬ m1.size + m2.size + m3.size + m4.size + m5.size > 9223372036854775807 := by omega
  have y6 : ¬ m1.size + m2.size + m3.size + m4.size + m5.size + m6.size > 9223372036854775807 := by omega
  have y7 : ¬ m1.size + m2.size + m3.size + m4.size + m5.size + m6.size + m7.size > 9223372036854775807 := by omega
  have cL := hide (fun W => specSeal_any (m1 ++ m2 ++ m3 ++ m4 ++ m5 ++ m6 ++ m7) W (by simp only [ByteArray.size_append]; omega))
  generalize sealOf (m1 ++ m2 ++ m3 ++ m4 ++ m5 ++ m6 ++ m7) = sx at *
  clear hbd z1 z2 z3 z4 z5 z6 z7
  obtain ⟨q0, q1, q2, q3, q4, q5, q6, q7, q8⟩ := unhide T1
  have r2 := cell_regrown q2
  have r3 := cell_regrown q3
  have r4 := cell_regrown q4
  have r5 := cell_regrown q5
  have r6 := cell_regrown q6
  have r7 := cell_regrown q7
  have r8 := cell_regrown q8
  clear q0 q1 q2 q3 q4 q5 q6 q7 q8 T1
  go_wp2_with fail
  refine wp_region_quiet_below (by kernel_rfl) (by kernel_rfl) ?_
  repeat (go_big_quiet_step (first | (with_reducible exact Calls.regrown_of (unhide n1 _)) | (with_reducible exact Calls.regrown_of (unhide n2 _)) | (with_reducible exact Calls.regrown_of (unhide n3 _)) | (with_reducible exact Calls.regrown_of (unhide n4 _)) | (with_reducible exact Calls.regrown_of (unhide n5 _)) | (with_reducible exact Calls.regrown_of (unhide n6 _)) | (with_reducible exact Calls.regrown_of (unhide n7 _)) | (with_reducible exact Calls.regrown_of (unhide cL _))))
  refine wpQuiet_nil ?_
  intro _ hw'
  obtain ⟨⟨dq, osq⟩, hw''⟩ := hw'
  subst hw''
  have hx := below_call (unhide B1) (below_regrown w1 dq osq)
  generalize grow (redrawn w1 dq) osq = W2 at hx ⊢
  have HB2 := hide hx
  clear hx r2 r3 r4 r5 r6 r7 r8 n1 n2 n3 n4 n5 n6 n7 B1
  go_wp2_with fail
  go_ret
  exact ⟨by rw [unhide HO]; rfl, unhide HB2⟩
end Go.Proofs.YtnffnjljjecphaaDoor
