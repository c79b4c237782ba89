/- FrameLess, walked: the specification's. -/
import Derived.Test.YtackifnnhjbgbaaFrC
import Derived.Deep.DeepCutAuto
namespace Go.Proofs.Ytackifnnhjbgbaa
open Go.RowKit Go.Sort
set_option linter.unusedVariables false

/-- '[]byte(s)', the world told by what is kept -/
theorem bytesOf (s : ByteArray) (w : World) : ∃ (cap : Nat) (w4 : World), (convert 9 29 (.string s)).run Try.prog w = .ok (.slice (some ⟨w.heap.size, 0, none⟩) s.size cap) w4 ∧ BRow w4 w.heap.size s.size (fun j => (byteN s j : Int)) ∧ Below w.heap.size w w4 ∧ w4.heap.size = w.heap.size + 1 := by
  have h := run_bytes_of_string (P := Try.prog) w 9 29 5 s Try.underlying9 Try.underlying29 Try.underlying5
  have hh : (w.drew.alloc (.cells (bytesRow s (grownCap w s.size 0 5)) 5 ((bytesRow s (grownCap w s.size 0 5)).size, (bytesRow s (grownCap w s.size 0 5)).size + 1))).heap[w.heap.size]? = _ := heap_alloc_new w.drew _
  refine ⟨_, _, h, fun j hj => ⟨?_, ?_⟩, ((Below.refl _ w).drew).alloc (Nat.le_refl _) _, by simp⟩
  · have hr := bytesRow_at s (grownCap w s.size 0 5) j hj
    unfold World.cell?
    simp only [hh, hr]
    rw [byteN_lt hj]
    rfl
  · have hsz : s.size ≤ (bytesRow s (grownCap w s.size 0 5)).size := by simp [bytesRow]
    unfold World.frozen?
    simp only [hh]
    simp
    omega
theorem both_no1 {w1 h1 w2 h2 : Int} {f d : ByteArray} (h : frameB w1 h1 f = false) : bothB w1 h1 f w2 h2 d = false := by unfold bothB; rw [h]; rfl
theorem both_no2 {w1 h1 w2 h2 : Int} {f d : ByteArray} (h : frameB w2 h2 d = false) : bothB w1 h1 f w2 h2 d = false := by unfold bothB; rw [h]; simp
theorem both_no3 {w1 h1 w2 h2 : Int} {f d : ByteArray} (h : ¬ w1 = w2) : bothB w1 h1 f w2 h2 d = false := by unfold bothB; simp [h]
theorem both_no4 {w1 h1 w2 h2 : Int} {f d : ByteArray} (h : ¬ h1 = h2) : bothB w1 h1 f w2 h2 d = false := by unfold bothB; simp [h]
theorem both_yes {w1 h1 w2 h2 : Int} {f d : ByteArray} (a : frameB w1 h1 f = true) (b : frameB w2 h2 d = true) (c : w1 = w2) (e : h1 = h2) : bothB w1 h1 f w2 h2 d = true := by unfold bothB; rw [a, b]; simp [c, e]
theorem lessV_no {w1 h1 w2 h2 : Int} {f d : ByteArray} (h : bothB w1 h1 f w2 h2 d = false) : lessV w1 h1 f w2 h2 d = .agg #[.int .i64 0, .int .i64 0, .string ⟨#[]⟩, .int .i64 1] := by unfold lessV; rw [h]; rfl
theorem lessV_yes {w1 h1 w2 h2 : Int} {f d : ByteArray} (h : bothB w1 h1 f w2 h2 d = true) : lessV w1 h1 f w2 h2 d = .agg #[.int .i64 w1, .int .i64 h1, .string (lessS f d), .int .i64 0] := by unfold lessV; rw [if_pos h]

theorem less_step {f d : ByteArray} {k : Nat} {v : Int} (h : lessI f d k = v) (j : Nat) : (if j = k then v else if j < k then lessI f d j else (byteN f j : Int)) = if j < k + 1 then lessI f d j else (byteN f j : Int) := by
  by_cases e : j = k
  · subst e; rw [if_pos rfl, if_pos (by omega), h]
  · rw [if_neg e]
    by_cases e2 : j < k
    · rw [if_pos e2, if_pos (by omega)]
    · rw [if_neg e2, if_neg (by omega)]

set_option maxHeartbeats 4000000 in
set_option maxRecDepth 100000 in
theorem specFrameLess_any (w1 h1 : Int) (f : ByteArray) (w2 h2 : Int) (d : ByteArray) (w : World) :
    Calls Try.prog 15 #[.agg #[.int .i64 w1, .int .i64 h1, .string f], .agg #[.int .i64 w2, .int .i64 h2, .string d]] w fun e w' => e = .returned (lessV w1 h1 f w2 h2 d) ∧ Below w.heap.size w w' := by
  have cF := hide (fun W => specFrameRight_any w1 h1 f W)
  have cD := hide (fun W => specFrameRight_any w2 h2 d W)
  have A0 := (((blk_new w [.int .i64 w1, .int .i64 h1, .string f] 26).alloc (.cells #[.int .i64 w2, .int .i64 h2, .string d] 26)).alloc (.cells #[.int .i64 0, .int .i64 0, .string ⟨#[]⟩, .int .i64 0] 40))
  have D0 := ((blk_new (w.alloc (.cells #[.int .i64 w1, .int .i64 h1, .string f] 26)) [.int .i64 w2, .int .i64 h2, .string d] 26).alloc (.cells #[.int .i64 0, .int .i64 0, .string ⟨#[]⟩, .int .i64 0] 40))
  have R0 := blk_new ((w.alloc (.cells #[.int .i64 w1, .int .i64 h1, .string f] 26)).alloc (.cells #[.int .i64 w2, .int .i64 h2, .string d] 26)) [.int .i64 0, .int .i64 0, .string ⟨#[]⟩, .int .i64 0] 40
  have B0 := below3 w (.cells #[.int .i64 w1, .int .i64 h1, .string f] 26) (.cells #[.int .i64 w2, .int .i64 h2, .string d] 26) (.cells #[.int .i64 0, .int .i64 0, .string ⟨#[]⟩, .int .i64 0] 40)
  have e1 : (w.alloc (.cells #[.int .i64 w1, .int .i64 h1, .string f] 26)).heap.size = w.heap.size + 1 := by simp
  have e2 : ((w.alloc (.cells #[.int .i64 w1, .int .i64 h1, .string f] 26)).alloc (.cells #[.int .i64 w2, .int .i64 h2, .string d] 26)).heap.size = w.heap.size + 1 + 1 := by simp
  rw [e1] at D0
  rw [e2] at R0
  clear e1 e2
  go_enter Try.func15, Try.ntmps15
  go_wp2_with fail
  generalize (((w.alloc (.cells #[.int .i64 w1, .int .i64 h1, .string f] 26)).alloc (.cells #[.int .i64 w2, .int .i64 h2, .string d] 26)).alloc (.cells #[.int .i64 0, .int .i64 0, .string ⟨#[]⟩, .int .i64 0] 40)) = W0 at A0 D0 R0 B0 ⊢
  obtain ⟨ob, hob⟩ : ∃ ob, ob = w.heap.size + 1 + 1 := ⟨_, rfl⟩
  obtain ⟨db, hdb⟩ : ∃ db, db = w.heap.size + 1 := ⟨_, rfl⟩
  obtain ⟨fb, hfb⟩ : ∃ fb, fb = w.heap.size := ⟨_, rfl⟩
  rw [← hob] at R0 ⊢
  rw [← hdb] at D0 ⊢
  rw [← hfb] at A0 ⊢
  have lfb : w.heap.size ≤ fb := by omega
  have lob : w.heap.size ≤ ob := by omega
  have lfd : fb < db := by omega
  have ldo : db < ob := by omega
  clear hob hdb hfb
  refine (unhide cF _).mono ?_
  rintro e W1 ⟨rfl, hx⟩
  have A1 := A0.kept hx
  have D1 := D0.kept hx
  have R1 := R0.kept hx
  have B1 := below_call B0 hx
  clear hx A0 D0 R0 B0
  cases k1 : frameB w1 h1 f
  · have r0 := R1.cell 0 _ rfl
    have r1 := R1.cell 1 _ rfl
    have r2 := R1.cell 2 _ rfl
    have r3 := R1.cell 3 _ rfl
    have g0 := R1.free 0
    have g1 := R1.free 1
    have g2 := R1.free 2
    have g3 := R1.free 3
    have HV : Hid (lessV w1 h1 f w2 h2 d = _) := hide (lessV_no (both_no1 k1))
    go_wp2_with fail
    rw [unhide HV]
    exact bodyPost_ret (v := .agg #[.int .i64 0, .int .i64 0, .string ⟨#[]⟩, .int .i64 1]) (by simp [results, Try.results15, go_sem, r0, r1, r2, r3]) rfl ⟨rfl, (((B1.setCell lob _).setCell lob _).setCell lob _).setCell lob _⟩
  have a0 := A1.cell 0 _ rfl
  have a1 := A1.cell 1 _ rfl
  have a2 := A1.cell 2 _ rfl
  have d0 := D1.cell 0 _ rfl
  have d1 := D1.cell 1 _ rfl
  have d2 := D1.cell 2 _ rfl
  go_wp2_with fail
  refine (unhide cD _).mono ?_
  rintro e W2 ⟨rfl, hx⟩
  have A2 := A1.kept hx
  have D2 := D1.kept hx
  have R2 := R1.kept hx
  have B2 := below_call B1 hx
  clear hx A1 D1 R1 B1 a0 a1 a2 d0 d1 d2
  cases k2 : frameB w2 h2 d
  · have r0 := R2.cell 0 _ rfl
    have r1 := R2.cell 1 _ rfl
    have r2 := R2.cell 2 _ rfl
    have r3 := R2.cell 3 _ rfl
    have g0 := R2.free 0
    have g1 := R2.free 1
    have g2 := R2.free 2
    have g3 := R2.free 3
    have HV : Hid (lessV w1 h1 f w2 h2 d = _) := hide (lessV_no (both_no2 k2))
    go_wp2_with fail
    rw [unhide HV]
    exact bodyPost_ret (v := .agg #[.int .i64 0, .int .i64 0, .string ⟨#[]⟩, .int .i64 1]) (by simp [results, Try.results15, go_sem, r0, r1, r2, r3]) rfl ⟨rfl, (((B2.setCell lob _).setCell lob _).setCell lob _).setCell lob _⟩
  have a0 := A2.cell 0 _ rfl
  have a1 := A2.cell 1 _ rfl
  have a2 := A2.cell 2 _ rfl
  have d0 := D2.cell 0 _ rfl
  have d1 := D2.cell 1 _ rfl
  have d2 := D2.cell 2 _ rfl
  by_cases k3 : w1 = w2
  case neg =>
    have k3' : (w1 == w2) = false := by simp [k3]
    have r0 := R2.cell 0 _ rfl
    have r1 := R2.cell 1 _ rfl
    have r2 := R2.cell 2 _ rfl
    have r3 := R2.cell 3 _ rfl
    have g0 := R2.free 0
    have g1 := R2.free 1
    have g2 := R2.free 2
    have g3 := R2.free 3
    have HV : Hid (lessV w1 h1 f w2 h2 d = _) := hide (lessV_no (both_no3 k3))
    go_wp2_with fail
    rw [unhide HV]
    exact bodyPost_ret (v := .agg #[.int .i64 0, .int .i64 0, .string ⟨#[]⟩, .int .i64 1]) (by simp [results, Try.results15, go_sem, r0, r1, r2, r3]) rfl ⟨rfl, (((B2.setCell lob _).setCell lob _).setCell lob _).setCell lob _⟩
  by_cases k4 : h1 = h2
  case neg =>
    have k4' : (h1 == h2) = false := by simp [k4]
    have k3' : (w1 == w2) = true := by simp [k3]
    have r0 := R2.cell 0 _ rfl
    have r1 := R2.cell 1 _ rfl
    have r2 := R2.cell 2 _ rfl
    have r3 := R2.cell 3 _ rfl
    have g0 := R2.free 0
    have g1 := R2.free 1
    have g2 := R2.free 2
    have g3 := R2.free 3
    have HV : Hid (lessV w1 h1 f w2 h2 d = _) := hide (lessV_no (both_no4 k4))
    go_wp2_with fail
    rw [unhide HV]
    exact bodyPost_ret (v := .agg #[.int .i64 0, .int .i64 0, .string ⟨#[]⟩, .int .i64 1]) (by simp [results, Try.results15, go_sem, r0, r1, r2, r3]) rfl ⟨rfl, (((B2.setCell lob _).setCell lob _).setCell lob _).setCell lob _⟩
  subst k3 k4
  have HV := hide (lessV_yes (both_yes k1 k2 rfl rfl))
  have hsz : (d.size : Int) = (f.size : Int) := by rw [(frameB_iff.1 k1).2.2.2.2, (frameB_iff.1 k2).2.2.2.2]
  have hsz2 : f.size ≤ 192 := by
    have hm := (frameB_iff.1 k1)
    have := Int.mul_le_mul hm.2.1 hm.2.2.2.1 (by omega) (by omega)
    omega
  obtain ⟨cap, W3, hcv, hrow, hx, hz⟩ := bytesOf f W2
  have hbb := R2.lt
  have A3 := A2.kept hx
  have D3 := D2.kept hx
  have R3 := R2.kept hx
  have B3 := below_call B2 hx
  go_wp2_with fail
  clear hcv hx A2 D2 R2 B2 a0 a1 a2 d0 d1 d2
  generalize W2.heap.size = bb at *
  have A4 := hide A3
  have D4 := hide D3
  have R4 := hide R3
  have B4 := hide B3
  have Q4 := hide hrow
  clear A3 D3 R3 B3 hrow
  go_loopw [6] (fun i wr => ∃ k : Nat, k ≤ f.size ∧ i = .int .i64 k ∧ Hid (BRow wr bb f.size (fun j => if j < k then lessI f d j else (byteN f j : Int))) ∧ Hid (Blk wr fb [.int .i64 w1, .int .i64 h1, .string f] 26) ∧ Hid (Blk wr db [.int .i64 w1, .int .i64 h1, .string d] 26) ∧ Hid (Blk wr ob [.int .i64 0, .int .i64 0, .string ⟨#[]⟩, .int .i64 0] 40) ∧ Hid (Below w.heap.size w wr)) (fun i _ => f.size - (intOf i).toNat)
  case atStart => exact ⟨0, by omega, rfl, hide ((unhide Q4).congr (fun j hj => by simp)), A4, D4, R4, B4⟩
  case round =>
    clear Q4 A4 D4 R4 B4
    obtain ⟨k, hk, rfl, HQ, HA, HD, HR, HB⟩ := hrel
    by_cases hkn : k < f.size
    · have hkn2 : (k : Int) < (f.size : Int) := by omega
      have hkn3 : (k : Int) < (d.size : Int) := by omega
      have hkd : k < d.size := by omega
      have hc := (unhide HQ k hkn).1
      simp only [Nat.lt_irrefl, if_false] at hc
      have d2 := (unhide HD).cell 2 _ rfl
      have q0 := cell_regrown hc
      have q2 := cell_regrown d2
      clear hc d2
      have hy := byteN_lt hkd
      have HY := hide hy
      clear hy
      go_wp2_with fail
      refine wp_region_quiet_below (by kernel_rfl) (by kernel_rfl) ?_
      repeat (go_big_quiet_step (fail))
      refine wpQuiet_nil ?_
      intro _ hw'
      obtain ⟨⟨dq, osq⟩, hw''⟩ := hw'
      subst hw''
      have hx := below_regrown wr dq osq
      have hbl : bb < wr.heap.size := World.block_lt_of_cell? _ _ (unhide HQ k hkn).1
      have Q5 := hide ((unhide HQ).kept hbl hx)
      have A5 := hide ((unhide HA).kept hx)
      have D5 := hide ((unhide HD).kept hx)
      have R5 := hide ((unhide HR).kept hx)
      have B5 := hide (below_call (unhide HB) hx)
      generalize grow (redrawn wr dq) osq = W5 at hx Q5 A5 D5 R5 B5 ⊢
      clear hx q0 q2 HQ HA HD HR HB hbl
      have hc := (unhide Q5 k hkn).1
      simp only [Nat.lt_irrefl, if_false] at hc
      have hfz := (unhide Q5 k hkn).2
      have d2 := (unhide D5).cell 2 _ rfl
      have hxb : (byteN f k : Int) < 256 := by rw [byteN_lt hkn]; have := f[k].toNat_lt; omega
      have hne1 : fb ≠ bb := by omega
      have hne2 : db ≠ bb := by omega
      have hne3 : ob ≠ bb := by omega
      have hbw : w.heap.size ≤ bb := by omega
      by_cases hlt : (byteN f k : Int) < (d[k].toNat : Int)
      · have HL : Hid (lessI f d k = 0) := hide (by unfold lessI; rw [if_pos (by rw [unhide HY]; omega)])
        have Q6 : Hid (BRow (W5.setCell ⟨bb, k, none⟩ (.int .u8 0)) bb f.size (fun j => if j < k + 1 then lessI f d j else (byteN f j : Int))) := hide (((unhide Q5).set k hkn 0).congr (fun j hj => less_step (unhide HL) j))
        have A6 := hide ((unhide A5).other ⟨bb, k, none⟩ (.int .u8 0) hne1)
        have D6 := hide ((unhide D5).other ⟨bb, k, none⟩ (.int .u8 0) hne2)
        have R6 := hide ((unhide R5).other ⟨bb, k, none⟩ (.int .u8 0) hne3)
        have B6 := hide ((unhide B5).setCell (p := ⟨bb, k, none⟩) hbw (.int .u8 0))
        go_wp2_with fail
        go_roundw
        case rel => exact ⟨k + 1, by omega, by go_num, Q6, A6, D6, R6, B6⟩
        case measure => simp [intOf] <;> omega
      · have hd0 : (0 : Int) ≤ (byteN f k : Int) - (d[k].toNat : Int) := by omega
        have HL : Hid (lessI f d k = (byteN f k : Int) - (d[k].toNat : Int)) := hide (by unfold lessI; rw [if_neg (by rw [unhide HY]; omega), unhide HY])
        have Q6 : Hid (BRow (W5.setCell ⟨bb, k, none⟩ (.int .u8 ((byteN f k : Int) - (d[k].toNat : Int)))) bb f.size (fun j => if j < k + 1 then lessI f d j else (byteN f j : Int))) := hide (((unhide Q5).set k hkn _).congr (fun j hj => less_step (unhide HL) j))
        have A6 := hide ((unhide A5).other ⟨bb, k, none⟩ (.int .u8 ((byteN f k : Int) - (d[k].toNat : Int))) hne1)
        have D6 := hide ((unhide D5).other ⟨bb, k, none⟩ (.int .u8 ((byteN f k : Int) - (d[k].toNat : Int))) hne2)
        have R6 := hide ((unhide R5).other ⟨bb, k, none⟩ (.int .u8 ((byteN f k : Int) - (d[k].toNat : Int))) hne3)
        have B6 := hide ((unhide B5).setCell (p := ⟨bb, k, none⟩) hbw (.int .u8 ((byteN f k : Int) - (d[k].toNat : Int))))
        go_wp2_with fail
        go_region
        go_wp2_with fail
        go_roundw
        case rel => exact ⟨k + 1, by omega, by go_num, hide (unhide Q6).drewn, hide (unhide A6).drewn, hide (unhide D6).drewn, hide (unhide R6).drewn, hide (unhide B6).drew⟩
        case measure => simp [intOf] <;> omega
    · have hke : k = f.size := by omega
      have Q5 : Hid (BRow wr bb f.size (lessI f d)) := hide ((unhide HQ).congr (fun j hj => by rw [if_pos (by omega)]))
      have hcv := (unhide Q5).conv cap
      clear HQ
      have a0 := (unhide HA).cell 0 _ rfl
      have a1 := (unhide HA).cell 1 _ rfl
      have a2 := (unhide HA).cell 2 _ rfl
      have af := (unhide HA).free 2
      have r0 := (unhide HR).cell 0 _ rfl
      have r1 := (unhide HR).cell 1 _ rfl
      have r2 := (unhide HR).cell 2 _ rfl
      have r3 := (unhide HR).cell 3 _ rfl
      have g0 := (unhide HR).free 0
      have g1 := (unhide HR).free 1
      have g2 := (unhide HR).free 2
      have g3 := (unhide HR).free 3
      have hne : fb ≠ ob := by omega
      have hne' : ob ≠ fb := by omega
      generalize lessS f d = res at *
      have HB' := unhide HB
      go_wp2_with fail
      rw [unhide HV]
      exact bodyPost_ret (v := .agg #[.int .i64 w1, .int .i64 h1, .string res, .int .i64 0]) (by simp [results, Try.results15, go_sem, r0, r1, r2, r3]) rfl ⟨rfl, ((((HB'.setCell lfb _).setCell lob _).setCell lob _).setCell lob _).setCell lob _⟩
end Go.Proofs.Ytackifnnhjbgbaa
