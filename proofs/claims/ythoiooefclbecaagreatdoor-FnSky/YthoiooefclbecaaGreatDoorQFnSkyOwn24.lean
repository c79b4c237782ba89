/- Several texts in one: SkyL. -/
import Derived.Test.YthoiooefclbecaaGreatDoorQFnSkyOwn23
namespace Go.Proofs.YthoiooefclbecaaGreatDoor
set_option linter.unusedVariables false
set_option linter.unusedSimpArgs false
set_option maxRecDepth 100000
set_option maxHeartbeats 8000000
section
open Go.RowKit Go.Sort
theorem dE (L : List St) (a : Option Addr) (c : Nat) (w : World) (hn : L.length ≤ 1048576) (hS : aA w a L L.length) :
  Calls Tryz.prog 12 #[.slice a L.length c] w fun e w' => e = .returned (.string (dO L)) ∧ Below w.heap.size w w' := by
 have cS := yz (fun (W : World) hW => bL L a c W hn hW)
 have cA := yz (fun (W : World) hk hW => mh L a c W hk hW)
 have HS := yz hS
 clear hS
 have HV := yz (show dO L = if aB L = true then aL (bG L L.length) else ⟨#[]⟩ from rfl)
 have H12 : Hid (aB L = true → L.length ≤ 12) := yz (fun h => (aQ h).1)
 have HZ := yz (cm L L.length)
 generalize L.length = n at *
 by_cases hbig : (400 : Int) < (n : Int)
 ·have hk : ¬ aB L = true := fun h => by have := yy H12 h; omega
  rw [if_neg hk] at HV
  clear hk
  go_enter Tryz.func12, Tryz.ntmps12
  go_wp2_with fail
  go_ret
  exact ⟨by rw [yy HV]; rfl, Below.refl _ _⟩
 have hbig' : decide ((400 : Int) < (n : Int)) = false := by simpa using hbig
 go_enter Tryz.func12, Tryz.ntmps12
 go_wp2_with fail
 refine (yy cS _ (yy HS)).mono ?_
 rintro e w1 ⟨rfl, hx⟩
 have HB := yz hx
 clear hx
 cases hk : aB L
 ·rw [hk] at HV
  clear hk
  go_wp2_with fail
  go_ret
  exact ⟨by rw [yy HV]; rfl, yy HB⟩
 ·rw [hk] at HV
  have cA' := yz (fun W hW => yy cA W hk hW)
  have h12 := yy H12 hk
  clear hk
  go_wp2_with fail
  refine (yy cA' _ ((yy HS).kept (yy HB))).mono ?_
  rintro e w2 ⟨rfl, hx⟩
  have HB2 := yz (ak (yy HB) hx)
  clear hx HB
  go_wp2_with fail
  refine (ib _ _ (by have := yy HZ; omega)).mono ?_
  rintro e w3 ⟨rfl, hx⟩
  have HB3 := yz (ak (yy HB2) hx)
  go_wp2_with fail
  go_ret
  exact ⟨by rw [yy HV]; rfl, yy HB3⟩
theorem fb (L : List St) (a : Option Addr) (c : Nat) (p : Addr) (w : World) (hn : L.length ≤ 1048576) (hcap : L.length ≤ c) (hc9 : c ≤ 9223372036854775807) (hS : aA w a L L.length) (hE : aU p w) :
  Calls Tryz.prog 5 #[.slice a L.length c] w fun e w' => e = .returned (.string (dO L)) ∧ Below w.heap.size w w' := by
 have cS := yz (fun (W : World) hW hE => ct L a c p W hn hcap hc9 hW hE)
 have HS := yz hS
 have HE := yz hE
 clear hS hE
 have HV := yz (show dO L = if aB L = true then aL (bG L L.length) else ⟨#[]⟩ from rfl)
 have H12 : Hid (aB L = true → L.length ≤ 12 ∧ kY L L.length) := yz (fun h => aQ h)
 have HZ : Hid (bG L 0 = ba (L.length : Int)) := yz rfl
 generalize L.length = n at *
 go_enter Tryz.func5, Tryz.ntmps5
 go_wp2_with fail
 refine (yy cS _ (yy HS) (yy HE)).mono ?_
 rintro e w1 ⟨rfl, hx⟩
 have HB := yz hx
 clear hx
 cases hk : aB L
 ·rw [hk] at HV
  clear hk
  go_wp2_with fail
  go_ret
  exact ⟨by rw [yy HV]; rfl, yy HB⟩
 obtain ⟨h12, hok⟩ := yy H12 hk
 rw [hk] at HV
 have HV' : Hid (dO L = aL (bG L n)) := yz (by rw [yy HV]; rfl)
 have HO := yz hok
 clear hk HV hok
 go_wp2_with fail
 refine (cb (n : Int) _ (by omega) (by omega)).mono ?_
 rintro e w2 ⟨rfl, hx⟩
 rw [← yy HZ]
 have HB2 := yz (ak (yy HB) hx)
 clear hx HB HZ
 rcases yy HS with rfl | ⟨b, o, rfl, hb, hc⟩
 ·go_wp2_with fail
  refine wp_loop_rounds 1 ?_
  rw [rounds_succ]
  go_wp2_with fail
  refine (dR _ _ (by have := cm L 0; omega)).mono ?_
  rintro e w3 ⟨rfl, hx⟩
  have HB3 := yz (ak (yy HB2) hx)
  go_wp2_with fail
  go_ret
  exact ⟨by rw [yy HV']; rfl, yy HB3⟩
 have HC := yz hc
 clear hc
 go_wp2_with fail
 go_loopw [3, 14] (fun t i wr => ∃ k : Nat, k ≤ n ∧ i = .int .i64 k ∧ t = .string (bG L k) ∧ Hid (Below w.heap.size w wr)) (fun _ i _ => n - (intOf i).toNat)
 case atStart => exact ⟨0, by omega, rfl, rfl, HB2⟩
 case round =>
  clear HB2
  obtain ⟨k, hk, rfl, rfl, HB⟩ := hrel
  by_cases hkn : k < n
  ·obtain ⟨⟨s1, s2, s3, s4⟩, hs⟩ : ∃ s, stA L k = s := ⟨_, rfl⟩
   have hst := ((yy HC) k hkn).kept hb (yy HB)
   rw [hs] at hst
   obtain ⟨c0, c1, c2, c3⟩ := hst
   obtain ⟨b1, b2, b3, b4⟩ := iE hs ((yy HO) k hkn)
   have z0 := cm L k
   have z1 := kH (s1, s2, s3, s4)
   have HE2 : Hid (bG L (k + 1) = bG L k ++ dN (s1, s2, s3, s4)) := yz (by rw [← hs]; rfl)
   clear hs
   have B1 := yz ((yy HB).alloc (yy HB).size (.cells #[.int .i64 s1, .int .i64 s2, .int .i64 s3, .int .i64 s4] 62))
   go_wp2_with fail
   refine (mD s1 s2 s3 s4 _ b1 b2 b3 b4).mono ?_
   rintro e w3 ⟨rfl, hx⟩
   have HB3 := yz (ak (yy B1) hx)
   clear hx B1 HB c0 c1 c2 c3
   go_wp2_with fail
   refine (cH _ _ _ (by omega) (by omega)).mono ?_
   rintro e w4 ⟨rfl, hx⟩
   have HB4 := yz (ak (yy HB3) hx)
   clear hx HB3
   rw [← yy HE2]
   go_wp2_with fail
   go_roundw
   case rel => exact ⟨k + 1, by omega, by go_num, rfl, HB4⟩
   case measure => simp [intOf]; omega
  ·have hkn' : k = n := by omega
   subst hkn'
   go_wp2_with fail
   refine (dR _ _ (by have := cm L k; omega)).mono ?_
   rintro e w3 ⟨rfl, hx⟩
   have HB3 := yz (ak (yy HB) hx)
   go_wp2_with fail
   go_ret
   exact ⟨by rw [yy HV']; rfl, yy HB3⟩
end
end Go.Proofs.YthoiooefclbecaaGreatDoor
