/- Why a list of stars is not right, and whether it is: the program's. -/
import Derived.Test.YtofpjlhoppofdaaGreatDoorSkyC
namespace Go.Proofs.YtofpjlhoppofdaaGreatDoor
open Go.RowKit Go.Sort
set_option linter.unusedVariables false

/-- what the program tells of a whole list -/
def whySky (L : List St) : Value := if 12 < L.length then faultA whyMany else match (List.range L.length).find? (fun i => !okAt L i) with | none => .nilIface | some i => whyV L i
theorem whySky_ok {L : List St} (hl : L.length ≤ 12) (h : okTo L L.length) : whySky L = .nilIface := by
  unfold whySky
  rw [if_neg (by omega)]
  have : (List.range L.length).find? (fun i => !okAt L i) = none := by
    rw [List.find?_eq_none]
    intro j hj
    rw [h j (List.mem_range.1 hj)]
    simp
  rw [this]
theorem whySky_at {L : List St} {k : Nat} (hl : L.length ≤ 12) (hk : k < L.length) (h : okTo L k) (h1 : okAt L k = false) : whySky L = whyV L k := by
  unfold whySky
  rw [if_neg (by omega)]
  have : (List.range L.length).find? (fun i => !okAt L i) = some k := by
    rw [List.find?_range_eq_some]
    refine ⟨by rw [h1]; rfl, List.mem_range.2 hk, fun j hj => ?_⟩
    rw [h j hj]
    rfl
  rw [this]
theorem whySky_no {L : List St} (h : skyB L = false) : ∃ why, whySky L = faultA why := by
  unfold whySky
  split
  · exact ⟨_, rfl⟩
  · rename_i hl
    cases hf : (List.range L.length).find? (fun i => !okAt L i) with
    | none =>
      exfalso
      rw [List.find?_eq_none] at hf
      have : skyB L = true := sky_yes (by omega) (fun j hj => by have := hf j (List.mem_range.2 hj); simpa using this)
      rw [h] at this
      cases this
    | some i =>
      rw [List.find?_range_eq_some] at hf
      exact whyV_no (by simpa using hf.1)
theorem whySky_yes {L : List St} (h : skyB L = true) : whySky L = .nilIface := whySky_ok (sky_ok h).1 (sky_ok h).2

set_option maxHeartbeats 2000000 in
set_option maxRecDepth 100000 in
theorem whyNoSky_any (L : List St) (a : Option Addr) (c : Nat) (w : World) (hn : L.length ≤ 1048576) (hcap : L.length ≤ c) (hc9 : c ≤ 9223372036854775807) (hS : Stars w a L L.length) :
    Calls Tryz.prog 130 #[.slice a L.length c] w fun e w' => e = .returned (whySky L) ∧ Below w.heap.size w w' := by
  obtain ⟨n, hnl⟩ : ∃ n, L.length = n := ⟨_, rfl⟩
  rw [hnl] at hn hcap hS ⊢
  have HL := hide hnl
  clear hnl
  by_cases h12 : 12 < n
  · have h12' : (12 : Int) < (n : Int) := by omega
    have HO : Hid (whySky L = faultA whyMany) := hide (by unfold whySky; rw [if_pos (by rw [unhide HL]; exact h12)])
    clear hS
    go_enter Tryz.func130, Tryz.ntmps130
    go_wp2
    go_ret
    exact ⟨by rw [unhide HO]; rfl, Below.refl _ _⟩
  have h12' : ¬ (12 : Int) < (n : Int) := by omega
  rcases hS with rfl | ⟨b, o, rfl, hb, hc⟩
  · have HO : Hid (whySky L = .nilIface) := hide (whySky_ok (by rw [unhide HL]; omega) (by rw [unhide HL]; intro j hj; omega))
    go_enter Tryz.func130, Tryz.ntmps130
    go_wp2_with fail
    refine wp_loop_rounds 1 ?_
    rw [rounds_succ]
    go_wp2_with fail
    go_ret
    exact ⟨by rw [unhide HO]; rfl, Below.refl _ _⟩
  have HC := hide hc
  have HS : Hid (Stars w (some ⟨b, o, none⟩) L n) := hide (.inr ⟨b, o, rfl, hb, hc⟩)
  clear hc
  go_enter Tryz.func130, Tryz.ntmps130
  go_wp2_with fail
  go_loopw [13] (fun i wr => ∃ k : Nat, k ≤ n ∧ i = .int .i64 k ∧ Hid (okTo L k) ∧ Hid (Below w.heap.size w wr)) (fun i _ => n - (intOf i).toNat)
  case atStart => exact ⟨0, by omega, rfl, hide (fun j hj => absurd hj (Nat.not_lt_zero _)), hide (Below.refl _ _)⟩
  case round =>
    obtain ⟨k, hk, rfl, HF, HB⟩ := hrel
    by_cases hkn : k < n
    · obtain ⟨⟨s1, s2, s3, s4⟩, hs⟩ : ∃ s, stA L k = s := ⟨_, rfl⟩
      have hst := ((unhide HC) k hkn).kept hb (unhide HB)
      rw [hs] at hst
      obtain ⟨c0, c1, c2, c3⟩ := hst
      have HT := hide hs
      clear hs
      have B1 := hide ((unhide HB).alloc (unhide HB).size (.cells #[.int .i64 s1, .int .i64 s2, .int .i64 s3, .int .i64 s4] 78))
      have N1 := hide (starAt_new wr (s1, s2, s3, s4) 78)
      go_wp2_with fail
      clear c0 c1 c2 c3
      have hb1 := unhide B1
      have hn1 := unhide N1
      generalize hwe : wr.alloc (.cells #[.int .i64 s1, .int .i64 s2, .int .i64 s3, .int .i64 s4] 78) = W1 at hb1 hn1 ⊢
      have HB1 := hide hb1
      clear hwe hb1 B1 N1
      obtain ⟨c0, c1, c2, c3⟩ := hn1
      simp only [Nat.zero_add] at c0 c1 c2 c3
      have r0 := cell_regrown c0
      have r1 := cell_regrown c1
      have r2 := cell_regrown c2
      have r3 := cell_regrown c3
      clear c0 c1 c2 c3
      have cW := hide (fun (W : World) (hW : Stars W (some ⟨b, o, none⟩) L k) => whyNoStar_any L k s1 s2 s3 s4 (some ⟨b, o, none⟩) k W (by omega) (unhide HT) hW)
      have HSk := hide (((unhide HS).less (Nat.le_of_lt hkn)).kept (unhide HB1))
      have hkc : (k : Int) ≤ (c : Int) := by omega
      refine wp_region_quiet_below (by kernel_rfl) (by kernel_rfl) ?_
      repeat (quiet_step (first | (with_reducible exact Calls.regrown_of (unhide cW _ ((unhide HSk).kept (below_regrown _ _ _))))))
      refine wpQuiet_nil ?_
      intro _ hw'
      obtain ⟨⟨dq, osq⟩, hw''⟩ := hw'
      subst hw''
      have hx := below_call (unhide HB1) (below_regrown W1 dq osq)
      generalize grow (redrawn W1 dq) osq = W2 at hx ⊢
      have HB2 := hide hx
      clear hx HB1 HB cW HSk r0 r1 r2 r3
      cases hok : okAt L k
      · obtain ⟨why, hwhy⟩ := whyV_no hok
        have HO := hide (whySky_at (by rw [unhide HL]; omega) (by rw [unhide HL]; exact hkn) (unhide HF) hok)
        rw [hwhy] at HO ⊢
        unfold faultA at HO ⊢
        clear hok hwhy
        go_wp2_with fail
        go_ret
        exact ⟨by rw [unhide HO]; rfl, unhide HB2⟩
      · rw [whyV_ok hok]
        have HF2 := hide (ok_step (unhide HF) hok)
        clear hok
        go_wp2_with fail
        go_roundw
        case rel => exact ⟨k + 1, by omega, by go_num, HF2, HB2⟩
        case measure => simp [intOf]; omega
    · have hkn' : k = n := by omega
      subst hkn'
      have HO := hide (whySky_ok (L := L) (by rw [unhide HL]; omega) (by rw [unhide HL]; exact unhide HF))
      go_wp2_with fail
      go_ret
      exact ⟨by rw [unhide HO]; rfl, unhide HB⟩

set_option maxHeartbeats 1000000 in
set_option maxRecDepth 100000 in
theorem skyRight_any (L : List St) (a : Option Addr) (c : Nat) (p : Addr) (w : World) (hn : L.length ≤ 1048576) (hcap : L.length ≤ c) (hc9 : c ≤ 9223372036854775807) (hS : Stars w a L L.length) (hE : ErrSky p w) :
    Calls Tryz.prog 87 #[.slice a L.length c] w fun e w' => e = .returned (.bool (skyB L)) ∧ Below w.heap.size w w' := by
  have r0 := cell_regrown (show w.cell? ⟨1, 0, none⟩ = some (.iface 257 (.pointer (some p))) from hE)
  have HS := hide hS
  have HE := hide hE
  clear hS hE
  cases hk : skyB L
  · obtain ⟨why, hwhy⟩ := whySky_no hk
    have cW : Hid (∀ W : World, Stars W a L L.length → Calls Tryz.prog 130 #[.slice a L.length c] W fun e w' => e = .returned (.iface 200 (.agg #[.string why])) ∧ Below W.heap.size W w') := hide (fun W hW => (whyNoSky_any L a c W hn hcap hc9 hW).mono fun e w' h => ⟨by rw [h.1, hwhy]; rfl, h.2⟩)
    have cI := hide (fun (W : World) (hW : ErrSky p W) => is_fault why p W hW)
    clear hwhy hk
    go_enter Tryz.func87, Tryz.ntmps87
    go_wp2_with fail
    refine wp_region_quiet_below (by kernel_rfl) (by kernel_rfl) ?_
    repeat (quiet_step (first | (with_reducible exact Calls.regrown_of (unhide cW _ ((unhide HS).kept (below_regrown _ _ _)))) | (with_reducible exact Calls.regrown_of (unhide cI _ ((unhide HE).kept (below_regrown _ _ _))))))
    refine wpQuiet_nil ?_
    intro _ hw'
    obtain ⟨⟨dq, osq⟩, hw''⟩ := hw'
    subst hw''
    have hx := below_regrown w dq osq
    go_wp2_with fail
    go_ret
    exact ⟨rfl, hx⟩
  · have cW : Hid (∀ W : World, Stars W a L L.length → Calls Tryz.prog 130 #[.slice a L.length c] W fun e w' => e = .returned .nilIface ∧ Below W.heap.size W w') := hide (fun W hW => (whyNoSky_any L a c W hn hcap hc9 hW).mono fun e w' h => ⟨by rw [h.1, whySky_yes hk], h.2⟩)
    have cI : Hid (∀ W : World, Calls Tryz.prog 129 #[.nilIface, .iface 257 (.pointer (some p))] W fun e w' => e = .returned (.bool false) ∧ Below W.heap.size W w') := hide (fun W => (is_nil p W).mono fun e w' h => ⟨h.1, by rw [h.2]; exact Below.refl _ _⟩)
    clear hk
    go_enter Tryz.func87, Tryz.ntmps87
    go_wp2_with fail
    refine wp_region_quiet_below (by kernel_rfl) (by kernel_rfl) ?_
    repeat (quiet_step (first | (with_reducible exact Calls.regrown_of (unhide cW _ ((unhide HS).kept (below_regrown _ _ _)))) | (with_reducible exact Calls.regrown_of (unhide cI _))))
    refine wpQuiet_nil ?_
    intro _ hw'
    obtain ⟨⟨dq, osq⟩, hw''⟩ := hw'
    subst hw''
    have hx := below_regrown w dq osq
    go_wp2_with fail
    go_ret
    exact ⟨rfl, hx⟩
end Go.Proofs.YtofpjlhoppofdaaGreatDoor
