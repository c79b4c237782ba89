/- SkyBytes: the program's and the specification's, and the law on it, walked. -/
import Derived.Test.YtijpnnooenpjoagDoorSkyK
namespace Go.Proofs.YtijpnnooenpjoagDoor
open Go.RowKit Go.Sort
set_option linter.unusedVariables false

set_option maxHeartbeats 1000000 in
set_option maxRecDepth 100000 in
theorem specSkyBytes_any (L : List St) (a : Option Addr) (c : Nat) (w : World) (hn : L.length ≤ 1048576) (hS : Stars w a L L.length) :
    Calls Tryd.prog 17 #[.slice a L.length c] w fun e w' => e = .returned (.string (skyS L)) ∧ Below w.heap.size w w' := by
  have cS := hide (fun (W : World) hW => specSky_any L a c W hn hW)
  have cA := hide (fun (W : World) hk hW => l04Bytes_any L a c W hk hW)
  have HS := hide hS
  clear hS
  have HV := hide (show skyS L = if skyB L = true then sealOf (skyTo L L.length) else ⟨#[]⟩ from rfl)
  have H12 : Hid (skyB L = true → L.length ≤ 12) := hide (fun h => (sky_ok h).1)
  have HZ := hide (skyTo_size L L.length)
  generalize L.length = n at *
  by_cases hbig : (400 : Int) < (n : Int)
  · have hk : ¬ skyB L = true := fun h => by have := unhide H12 h; omega
    rw [if_neg hk] at HV
    clear hk
    go_enter Tryd.func17, Tryd.ntmps17
    go_wp2_with fail
    go_ret
    exact ⟨by rw [unhide HV]; rfl, Below.refl _ _⟩
  have hbig' : decide ((400 : Int) < (n : Int)) = false := by simpa using hbig
  go_enter Tryd.func17, Tryd.ntmps17
  go_wp2_with fail
  refine (unhide cS _ (unhide HS)).mono ?_
  rintro e w1 ⟨rfl, hx⟩
  have HB := hide hx
  clear hx
  cases hk : skyB L
  · rw [hk] at HV
    clear hk
    go_wp2_with fail
    go_ret
    exact ⟨by rw [unhide HV]; rfl, unhide HB⟩
  · rw [hk] at HV
    have cA' := hide (fun W hW => unhide cA W hk hW)
    have h12 := unhide H12 hk
    clear hk
    go_wp2_with fail
    refine (unhide cA' _ ((unhide HS).kept (unhide HB))).mono ?_
    rintro e w2 ⟨rfl, hx⟩
    have HB2 := hide (below_call (unhide HB) hx)
    clear hx HB
    go_wp2_with fail
    refine (specSeal_any _ _ (by have := unhide HZ; omega)).mono ?_
    rintro e w3 ⟨rfl, hx⟩
    have HB3 := hide (below_call (unhide HB2) hx)
    go_wp2_with fail
    go_ret
    exact ⟨by rw [unhide HV]; rfl, unhide HB3⟩

set_option maxHeartbeats 1000000 in
set_option maxRecDepth 100000 in
theorem skyBytes_any (L : List St) (a : Option Addr) (c : Nat) (p : Addr) (w : World) (hn : L.length ≤ 1048576) (hcap : L.length ≤ c) (hc9 : c ≤ 9223372036854775807) (hS : Stars w a L L.length) (hE : ErrSky p w) :
    Calls Tryd.prog 18 #[.slice a L.length c] w fun e w' => e = .returned (.string (skyS L)) ∧ Below w.heap.size w w' := by
  have cS := hide (fun (W : World) hW hE => skyRight_any L a c p W hn hcap hc9 hW hE)
  have HS := hide hS
  have HE := hide hE
  clear hS hE
  have HV := hide (show skyS L = if skyB L = true then sealOf (skyTo L L.length) else ⟨#[]⟩ from rfl)
  have H12 : Hid (skyB L = true → L.length ≤ 12 ∧ okTo L L.length) := hide (fun h => sky_ok h)
  have HZ : Hid (skyTo L 0 = numS (L.length : Int)) := hide rfl
  generalize L.length = n at *
  go_enter Tryd.func18, Tryd.ntmps18
  go_wp2_with fail
  refine (unhide cS _ (unhide HS) (unhide HE)).mono ?_
  rintro e w1 ⟨rfl, hx⟩
  have HB := hide hx
  clear hx
  cases hk : skyB L
  · rw [hk] at HV
    clear hk
    go_wp2_with fail
    go_ret
    exact ⟨by rw [unhide HV]; rfl, unhide HB⟩
  obtain ⟨h12, hok⟩ := unhide H12 hk
  rw [hk] at HV
  have HV' : Hid (skyS L = sealOf (skyTo L n)) := hide (by rw [unhide HV]; rfl)
  have HO := hide hok
  clear hk HV hok
  go_wp2_with fail
  refine (implPutNum_any (n : Int) _ (by omega) (by omega)).mono ?_
  rintro e w2 ⟨rfl, hx⟩
  rw [← unhide HZ]
  have HB2 := hide (below_call (unhide HB) hx)
  clear hx HB HZ
  rcases unhide HS with rfl | ⟨b, o, rfl, hb, hc⟩
  · go_wp2_with fail
    refine wp_loop_rounds 1 ?_
    rw [rounds_succ]
    go_wp2_with fail
    refine (implSeal_any _ _ (by have := skyTo_size L 0; omega)).mono ?_
    rintro e w3 ⟨rfl, hx⟩
    have HB3 := hide (below_call (unhide HB2) hx)
    go_wp2_with fail
    go_ret
    exact ⟨by rw [unhide HV']; rfl, unhide HB3⟩
  have HC := hide hc
  clear hc
  go_wp2_with fail
  go_loopw [3, 14] (fun t i wr => ∃ k : Nat, k ≤ n ∧ i = .int .i64 k ∧ t = .string (skyTo L k) ∧ Hid (Below w.heap.size w wr)) (fun _ i _ => n - (intOf i).toNat)
  case atStart => exact ⟨0, by omega, rfl, rfl, HB2⟩
  case round =>
    clear HB2
    obtain ⟨k, hk, rfl, rfl, HB⟩ := hrel
    by_cases hkn : k < n
    · obtain ⟨⟨s1, s2, s3, s4⟩, hs⟩ : ∃ s, stA L k = s := ⟨_, rfl⟩
      have hst := ((unhide HC) k hkn).kept hb (unhide HB)
      rw [hs] at hst
      obtain ⟨c0, c1, c2, c3⟩ := hst
      obtain ⟨b1, b2, b3, b4⟩ := ok_bounds hs ((unhide HO) k hkn)
      have z0 := skyTo_size L k
      have z1 := starB_size (s1, s2, s3, s4)
      have HE2 : Hid (skyTo L (k + 1) = skyTo L k ++ starB (s1, s2, s3, s4)) := hide (by rw [← hs]; rfl)
      clear hs
      have B1 := hide ((unhide HB).alloc (unhide HB).size (.cells #[.int .i64 s1, .int .i64 s2, .int .i64 s3, .int .i64 s4] 60))
      go_wp2_with fail
      refine (starText_any s1 s2 s3 s4 _ b1 b2 b3 b4).mono ?_
      rintro e w3 ⟨rfl, hx⟩
      have HB3 := hide (below_call (unhide B1) hx)
      clear hx B1 HB c0 c1 c2 c3
      go_wp2_with fail
      refine (joinTexts_any _ _ _ (by omega) (by omega)).mono ?_
      rintro e w4 ⟨rfl, hx⟩
      have HB4 := hide (below_call (unhide HB3) hx)
      clear hx HB3
      rw [← unhide HE2]
      go_wp2_with fail
      go_roundw
      case rel => exact ⟨k + 1, by omega, by go_num, rfl, HB4⟩
      case measure => simp [intOf]; omega
    · have hkn' : k = n := by omega
      subst hkn'
      go_wp2_with fail
      refine (implSeal_any _ _ (by have := skyTo_size L k; omega)).mono ?_
      rintro e w3 ⟨rfl, hx⟩
      have HB3 := hide (below_call (unhide HB) hx)
      go_wp2_with fail
      go_ret
      exact ⟨by rw [unhide HV']; rfl, unhide HB3⟩

set_option maxHeartbeats 1000000 in
set_option maxRecDepth 100000 in
theorem lawSkyBytes (L : List St) (a : Option Addr) (c : Nat) (p : Addr) (w : World) (hn : L.length ≤ 1048576) (hS : Stars w a L L.length) (hE : ErrSky p w) :
    Calls Tryd.prog 5 #[.slice a L.length c] w fun e w' => e = .returned (.bool true) ∧ Below w.heap.size w w' := by
  have HS := hide hS
  have HE := hide hE
  clear hS hE
  have cT := hide (fun W hW => toStarS_any L a c W hn hW)
  have cS := hide (fun (W : World) (b k : Nat) hW => specSkyBytes_any L (some ⟨b, 0, none⟩) k W hn hW)
  have cR := hide (fun (W : World) (b : Nat) hW hE => skyBytes_any L (some ⟨b, 0, none⟩) L.length p W hn (Nat.le_refl _) (by omega) hW hE)
  generalize skyS L = y at cS cR
  generalize L.length = n at *
  have h0 : ¬ (1048576 : Int) - (n : Int) < 0 := by omega
  have hyy : (y.toList == y.toList) = true := by simp
  go_enter Tryd.func5, Tryd.ntmps5
  go_wp2_with fail
  refine (szStarS_any a n c _ hn).mono ?_
  rintro e w1 ⟨rfl, hw⟩
  rw [hw]
  clear hw w1
  go_wp2_with fail
  refine (unhide cT _ (unhide HS)).mono ?_
  rintro e w1 ⟨rfl, ho1, hb1⟩
  have O1 := hide ho1
  have HB1 := hide hb1
  generalize w.heap.size = b1 at O1 ⊢
  clear ho1 hb1
  go_wp2_with fail
  refine (unhide cS _ b1 n (unhide O1).stars).mono ?_
  rintro e w2 ⟨rfl, hx⟩
  have HB2 := hide (below_call (unhide HB1) hx)
  clear hx HB1 O1
  go_wp2_with fail
  refine (unhide cT _ ((unhide HS).kept (unhide HB2))).mono ?_
  rintro e w3 ⟨rfl, ho3, hx⟩
  have HB3 := hide (below_call (unhide HB2) hx)
  have O3 := hide ho3
  generalize w2.heap.size = b3 at O3 ⊢
  clear hx HB2 ho3
  go_wp2_with fail
  refine (unhide cR _ b3 (unhide O3).stars ((unhide HE).kept (unhide HB3))).mono ?_
  rintro e w4 ⟨rfl, hx⟩
  have HB4 := hide (below_call (unhide HB3) hx)
  have O4 := hide ((unhide O3).kept hx)
  clear hx HB3 O3
  go_wp2_with fail
  refine (unhide cT _ ((unhide HS).kept (unhide HB4))).mono ?_
  rintro e w5 ⟨rfl, ho5, hx⟩
  have HB5 := hide (below_call (unhide HB4) hx)
  have O5 := hide ((unhide O4).kept hx)
  have O6 := hide ho5
  generalize w4.heap.size = b5 at O6 ⊢
  clear hx HB4 O4 ho5
  go_wp2_with fail
  refine (eqStarS_same L n (some ⟨b3, 0, none⟩) (some ⟨b5, 0, none⟩) n n _ hn (unhide O5).stars (unhide O6).stars).mono ?_
  rintro e w6 ⟨rfl, hx⟩
  have hB := below_call (unhide HB5) hx
  go_wp2_with fail
  go_ret
  exact ⟨rfl, hB⟩
set_option maxRecDepth 100000 in
theorem lawSkyBytes_big (n : Nat) (a : Option Addr) (c : Nat) (w : World) (hn : 1048576 < n) (hm : n ≤ 9223372036854775807) :
    Calls Tryd.prog 5 #[.slice a n c] w fun e w' => e = .returned (.bool true) ∧ Below w.heap.size w w' := by
  go_enter Tryd.func5, Tryd.ntmps5
  go_wp2_with fail
  refine (szStarS_big a n c _ hn hm).mono ?_
  rintro e w1 ⟨rfl, hw⟩
  rw [hw]
  go_wp2_with fail
  go_ret
  exact ⟨rfl, Below.refl _ _⟩
theorem lawSkyBytes_all (L : List St) (a : Option Addr) (len cap : Nat) (hl : L.length = len) (hm : len ≤ maxLen) (w : World) (hS : Stars w a L len) (hE : ∃ p, ErrSky p w) :
    Calls Tryd.prog 5 #[.slice a len cap] w fun e w' => e = .returned (.bool true) ∧ Below w.heap.size w w' := by
  obtain ⟨p, hp⟩ := hE
  subst hl
  have hm' : maxLen ≤ 9223372036854775807 := by decide +kernel
  by_cases h : L.length ≤ 1048576
  · exact lawSkyBytes L a cap p w h hS hp
  · exact lawSkyBytes_big L.length a cap w (by omega) (by omega)
end Go.Proofs.YtijpnnooenpjoagDoor
