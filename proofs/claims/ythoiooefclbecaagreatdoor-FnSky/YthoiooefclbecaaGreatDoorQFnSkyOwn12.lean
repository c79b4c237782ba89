/- Several texts in one: ReadNum. -/
import Derived.Test.YthoiooefclbecaaGreatDoorRows
import Derived.WalkKit
import Derived.WalkSpells
import Derived.WalkLawsBesides
import Derived.Test.YthoiooefclbecaaGreatDoorQFnSkyOwn10
import Derived.Test.YthoiooefclbecaaGreatDoorQFnSkyOwn11
namespace Go.Proofs.YthoiooefclbecaaGreatDoor
set_option linter.unusedVariables false
set_option linter.unusedSimpArgs false
set_option maxRecDepth 100000
set_option maxHeartbeats 8000000
section
open Go.RowKit
theorem fB (u : Nat) (w : World) (hu : u < 18446744073709551616) :
    Calls Tryz.prog 108 #[.int .u64 (u : Int)] w fun e w' => e = .returned (.int .i64 (unf u)) ∧ w' = w := by
  have ha : bits .and .u64 (u : Int) 1 = ((u % 2 : Nat) : Int) := by
    have h := u64_and_nat u 1 hu (by omega)
    rw [nat_mask1] at h
    exact h
  by_cases h : u % 2 = 1
  · have hw : (bits .and .u64 (u : Int) 1 == 1) = true := by rw [ha, h]; rfl
    have HF := yz (show wrap64 (bits .xor .u64 IntKind.u64.max ((u : Int) / 2)) = unf u by
      have hm : IntKind.u64.max = 18446744073709551615 := by decide
      have hx : bits .xor .u64 18446744073709551615 ((u / 2 : Nat) : Int) = ((18446744073709551615 - u / 2 : Nat) : Int) := by
        have h1 := u64_xor_nat 18446744073709551615 (u / 2) (by omega) (by omega)
        refine Eq.trans h1 ?_
        congr 1
        have hv : (BitVec.allOnes 64 ^^^ BitVec.ofNat 64 (u / 2)).toNat = 18446744073709551615 - u / 2 := by
          rw [BitVec.allOnes_xor, BitVec.toNat_not, BitVec.toNat_ofNat, Nat.mod_eq_of_lt (by omega)]
        rw [BitVec.toNat_xor, BitVec.toNat_allOnes, BitVec.toNat_ofNat, Nat.mod_eq_of_lt (by omega)] at hv
        simpa using hv
      rw [hm, show ((u : Int) / 2) = ((u / 2 : Nat) : Int) by omega, hx]
      unfold wrap64 unf
      rw [if_pos h]
      omega)
    clear ha
    go_enter Tryz.func108, Tryz.ntmps108
    go_wp2
    go_ret
    exact ⟨by rw [← yy HF]; rfl, rfl⟩
  · have hw : (bits .and .u64 (u : Int) 1 == 1) = false := by rw [ha]; simp; omega
    have HF := yz (show (u : Int) / 2 = unf u by unfold unf; rw [if_neg h]; omega)
    clear ha
    go_enter Tryz.func108, Tryz.ntmps108
    go_wp2
    go_ret
    exact ⟨by rw [← yy HF]; rfl, rfl⟩
def kl : Except Int (Nat × Nat) → Value
  | .error c => .tuple #[.int .i64 0, .int .i64 0, .iface 135 (.agg #[.int .i64 c])]
  | .ok x => .tuple #[.int .i64 (unf x.1), .int .i64 (x.2 : Int), .nilIface]
def J0 (s : ByteArray) (p : Nat) (a' : Act) : Prop := ∃ (i u : Nat) (ci pl : Int) (b : Value) (u11 u12 u13 u14 u15 u16 u17 u18 u19 u20 u21 u22 u23 u24 u25 u26 u27 u28 u29 u30 u31 u32 u33 u34 u35 u36 u37 u38 u39 u40 u41 u42 u43 u44 u45 u46 u47 u48 u49 u50 u51 u52 u53 u54 u55 u56 : Value), ci = i ∧ pl = (p : Int) + i ∧ i ≤ 9 ∧ u < 2 ^ (7 * i) ∧ bi s p 10 0 0 = bi s p (9 - i + 1) i u ∧
     a' = { tmps := #[.string s, .int .i64 (p : Int), undef, undef, .int .i64 0, .int .i64 0, .nilIface, .int .u64 u, b, .int .i64 ci, .int .i64 pl, u11, u12, u13, u14, u15, u16, u17, u18, u19, u20, u21, u22, u23, u24, u25, u26, u27, u28, u29, u30, u31, u32, u33, u34, u35, u36, u37, u38, u39, u40, u41, u42, u43, u44, u45, u46, u47, u48, u49, u50, u51, u52, u53, u54, u55, u56], defers := [] }
def J1 (s : ByteArray) (p : Nat) (a' : Act) : Prop := ∃ (u0 u1 u2 u3 u4 u5 u6 u7 u8 u9 u10 u11 u12 u13 u14 u15 u16 u17 u18 u19 u20 u21 u22 u23 u24 u25 u26 u27 u28 u29 u30 u31 u32 u33 u34 u35 u36 u37 u38 u39 u40 u41 u42 u43 u44 u45 u46 u47 u48 u49 u50 u51 u52 u53 u54 u55 u56 : Value), bi s p 10 0 0 = .error 3 ∧ a' = { tmps := #[u0, u1, u2, u3, u4, u5, u6, u7, u8, u9, u10, u11, u12, u13, u14, u15, u16, u17, u18, u19, u20, u21, u22, u23, u24, u25, u26, u27, u28, u29, u30, u31, u32, u33, u34, u35, u36, u37, u38, u39, u40, u41, u42, u43, u44, u45, u46, u47, u48, u49, u50, u51, u52, u53, u54, u55, u56], defers := [] }
def J2 (s : ByteArray) (p : Nat) (a' : Act) : Prop := ∃ (i u c : Nat) (ci pl : Int) (u11 u12 u13 u14 u15 u16 u17 u18 u19 u20 u21 u22 u23 u24 u25 u26 u27 u28 u29 u30 u31 u32 u33 u34 u35 u36 u37 u38 u39 u40 u41 u42 u43 u44 u45 u46 u47 u48 u49 u50 u51 u52 u53 u54 u55 u56 : Value), ci = (i : Int) + 1 ∧ pl = (p : Int) + i + 1 ∧ i ≤ 9 ∧ p + i < s.size ∧ u < 18446744073709551616 ∧ c < 128 ∧ bi s p 10 0 0 = (if c = 0 ∧ 0 < i then .error 3 else .ok (u, p + i + 1)) ∧
     a' = { tmps := #[.string s, .int .i64 (p : Int), undef, undef, .int .i64 0, .int .i64 0, .nilIface, .int .u64 u, .int .u8 (c : Int), .int .i64 ci, .int .i64 pl, u11, u12, u13, u14, u15, u16, u17, u18, u19, u20, u21, u22, u23, u24, u25, u26, u27, u28, u29, u30, u31, u32, u33, u34, u35, u36, u37, u38, u39, u40, u41, u42, u43, u44, u45, u46, u47, u48, u49, u50, u51, u52, u53, u54, u55, u56], defers := [] }
def Jr (s : ByteArray) (p : Nat) (w : World) (l : Nat) (a' : Act) (w' : World) : Prop := w' = w ∧ ((l = 0 ∧ J0 s p a') ∨ (l = 1 ∧ J1 s p a') ∨ (l = 2 ∧ J2 s p a'))
def mr (l : Nat) (a' : Act) (_ : World) : Nat := if l = 0 then 20 - (intOf (a'.tmps.getD 9 undef)).toNat else if l = 2 then 2 else 1
theorem dL (s : ByteArray) (p : Nat) (w : World) (hs : s.size ≤ 8000) (h1 : (p : Int) ≤ 9223372036854775807) :
    Calls Tryz.prog 85 #[.string s, .int .i64 (p : Int)] w fun e w' => e = .returned (kl (bi s p 10 0 0)) ∧ w' = w := by
  go_enter Tryz.func85, Tryz.ntmps85
  go_wp2
  refine mw (Jr s p w) mr ?_ ?_
  · by_cases hlt : p < s.size
    · have hb : s[p].toNat < 256 := UInt8.toNat_lt _
      have HO := yz (rH s[p].toNat hb)
      by_cases hc : s[p].toNat < 128
      · have HN := yz (fO (s := s) (p := p) (k := 9) (i := 0) (u := 0) hlt (by omega) hc)
        go_wp2
        go_step3
        go_wp2
        go_step3
        rw [yy HO]
        exact ⟨rfl, .inr (.inr ⟨rfl, 0, _, _, _, _, _, _, _, _, _, _, _, _, _, _, _, _, _, _, _, _, _, _, _, _, _, _, _, _, _, _, _, _, _, _, _, _, _, _, _, _, _, _, _, _, _, _, _, _, _, _, by simp, by simp, by omega, hlt, by omega, hc, (yy HN).trans (by simp), rfl⟩)⟩
      · have HN := yz (iJ (s := s) (p := p) (k := 9) (i := 0) (u := 0) hlt (by omega) hc)
        go_wp2
        go_step3
        go_wp2
        go_step3
        rw [yy HO]
        exact ⟨rfl, .inl ⟨rfl, 1, _, _, _, _, _, _, _, _, _, _, _, _, _, _, _, _, _, _, _, _, _, _, _, _, _, _, _, _, _, _, _, _, _, _, _, _, _, _, _, _, _, _, _, _, _, _, _, _, _, _, by simp, by simp, by omega, by omega, (yy HN).trans (by simp), rfl⟩⟩
    · have HN := yz (gx (s := s) (p := p) (k := 9) (i := 0) (u := 0) (by omega))
      go_wp2
      go_step3
      go_wp2
      simp only [kh]
      go_ret3
      exact ⟨by rw [yy HN]; rfl, rfl⟩
  · rintro l a' w' ⟨rfl, ⟨rfl, i, u, ci, pl, b, u11, u12, u13, u14, u15, u16, u17, u18, u19, u20, u21, u22, u23, u24, u25, u26, u27, u28, u29, u30, u31, u32, u33, u34, u35, u36, u37, u38, u39, u40, u41, u42, u43, u44, u45, u46, u47, u48, u49, u50, u51, u52, u53, u54, u55, u56, rfl, rfl, hi, hu, he, rfl⟩ | ⟨rfl, u0, u1, u2, u3, u4, u5, u6, u7, u8, u9, u10, u11, u12, u13, u14, u15, u16, u17, u18, u19, u20, u21, u22, u23, u24, u25, u26, u27, u28, u29, u30, u31, u32, u33, u34, u35, u36, u37, u38, u39, u40, u41, u42, u43, u44, u45, u46, u47, u48, u49, u50, u51, u52, u53, u54, u55, u56, he, rfl⟩ | ⟨rfl, i, u, c, ci, pl, u11, u12, u13, u14, u15, u16, u17, u18, u19, u20, u21, u22, u23, u24, u25, u26, u27, u28, u29, u30, u31, u32, u33, u34, u35, u36, u37, u38, u39, u40, u41, u42, u43, u44, u45, u46, u47, u48, u49, u50, u51, u52, u53, u54, u55, u56, rfl, rfl, hi, hps, hu, hc, he, rfl⟩⟩
    · refine ⟨_, rfl, ?_⟩
      by_cases hlt : p + i < s.size
      · have hb : s[p + i].toNat < 256 := UInt8.toNat_lt _
        have hpw := sS hi
        by_cases h9 : i = 9
        · subst h9
          by_cases hc1 : 1 < s[p + 9].toNat
          · have HN := yz (he.trans (kw (s := s) (p := p) (k := 0) (i := 9) (u := u) hlt rfl hc1))
            clear he hu hpw
            go_wp2
            go_step3
            exact ⟨⟨rfl, .inr (.inl ⟨rfl, _, _, _, _, _, _, _, _, _, _, _, _, _, _, _, _, _, _, _, _, _, _, _, _, _, _, _, _, _, _, _, _, _, _, _, _, _, _, _, _, _, _, _, _, _, _, _, _, _, _, _, _, _, _, _, _, _, yy HN, rfl⟩)⟩, by simp [mr, intOf]⟩
          · have HN := yz (he.trans (fO (s := s) (p := p) (k := 0) (i := 9) (u := u) hlt (by omega) (by omega)))
            have HO := yz (rI u s[p + 9].toNat hu hb (by omega))
            have HB := yz (eQ u s[p + 9].toNat 9 (by omega) hu (by omega))
            clear he hu hpw
            go_wp2
            go_step3
            rw [yy HO]
            exact ⟨⟨rfl, .inr (.inr ⟨rfl, 9, _, _, _, _, _, _, _, _, _, _, _, _, _, _, _, _, _, _, _, _, _, _, _, _, _, _, _, _, _, _, _, _, _, _, _, _, _, _, _, _, _, _, _, _, _, _, _, _, _, _, by simp, by simp, by omega, hlt, yy HB, by omega, yy HN, rfl⟩)⟩, by simp [mr, intOf]⟩
        · have hi9 : i < 9 := by omega
          by_cases hc : s[p + i].toNat < 128
          · have HN := yz (he.trans (fO (s := s) (p := p) (k := 9 - i) (i := i) (u := u) hlt (by omega) hc))
            have HO := yz (jB u s[p + i].toNat i hi hu hb (by omega))
            have HB := yz (eQ u s[p + i].toNat i hi hu (by omega))
            clear he hu hpw h9
            go_wp2
            go_step3
            rw [yy HO]
            exact ⟨⟨rfl, .inr (.inr ⟨rfl, i, _, _, _, _, _, _, _, _, _, _, _, _, _, _, _, _, _, _, _, _, _, _, _, _, _, _, _, _, _, _, _, _, _, _, _, _, _, _, _, _, _, _, _, _, _, _, _, _, _, _, rfl, rfl, by omega, hlt, yy HB, hc, yy HN, rfl⟩)⟩, by simp [mr, intOf]; omega⟩
          · have HN := yz (he.trans (iJ (s := s) (p := p) (k := 9 - i) (i := i) (u := u) hlt hi9 hc))
            have HO := yz (jB u s[p + i].toNat i hi hu hb (by omega))
            have HB := yz (fA u s[p + i].toNat i hu)
            have HM := yz (show bi s p 10 0 0 = bi s p (9 - (i + 1) + 1) (i + 1) (u + s[p + i].toNat % 128 * 2 ^ (7 * i)) by rw [show 9 - (i + 1) + 1 = 9 - i by omega]; exact yy HN)
            clear he hu hpw h9
            go_wp2
            go_step3
            rw [yy HO]
            exact ⟨⟨rfl, .inl ⟨rfl, i + 1, _, _, _, _, _, _, _, _, _, _, _, _, _, _, _, _, _, _, _, _, _, _, _, _, _, _, _, _, _, _, _, _, _, _, _, _, _, _, _, _, _, _, _, _, _, _, _, _, _, _, by simp, by simp; omega, by omega, yy HB, yy HM, rfl⟩⟩, by simp [mr, intOf]; omega⟩
      · have HN := yz (he.trans (gx (s := s) (p := p) (k := 9 - i) (i := i) (u := u) (by omega)))
        clear he hu
        go_wp2
        simp only [kh]
        go_ret3
        exact ⟨by rw [yy HN]; rfl, rfl⟩
    · refine ⟨_, rfl, ?_⟩
      have HN := yz he
      clear he
      go_wp2
      simp only [kh]
      go_ret3
      exact ⟨by rw [yy HN]; rfl, rfl⟩
    · refine ⟨_, rfl, ?_⟩
      by_cases hz : c = 0
      · subst hz
        by_cases hi0 : 0 < i
        · have HN := yz (show bi s p 10 0 0 = .error 3 by rw [he, if_pos ⟨rfl, hi0⟩])
          clear he
          go_wp2
          go_step3
          exact ⟨⟨rfl, .inr (.inl ⟨rfl, _, _, _, _, _, _, _, _, _, _, _, _, _, _, _, _, _, _, _, _, _, _, _, _, _, _, _, _, _, _, _, _, _, _, _, _, _, _, _, _, _, _, _, _, _, _, _, _, _, _, _, _, _, _, _, _, _, yy HN, rfl⟩)⟩, by simp [mr]⟩
        · have HN := yz (show bi s p 10 0 0 = .ok (u, p + i + 1) by rw [he, if_neg (by omega)])
          clear he
          obtain rfl : i = 0 := by omega
          go_wp2_with (go_at_call 108; refine (fB _ _ hu).mono ?_; rintro e w' ⟨rfl, hw⟩; obtain rfl := hw.symm)
          simp only [kh]
          go_ret3
          exact ⟨by rw [yy HN]; simp [kl], rfl⟩
      · have HN := yz (show bi s p 10 0 0 = .ok (u, p + i + 1) by rw [he, if_neg (by omega)])
        have hcz : ((c : Int) == 0) = false := by simp; omega
        clear he hz
        go_wp2_with (go_at_call 108; refine (fB _ _ hu).mono ?_; rintro e w' ⟨rfl, hw⟩; obtain rfl := hw.symm)
        simp only [kh]
        go_ret3
        exact ⟨by rw [yy HN]; simp [kl], rfl⟩
end
end Go.Proofs.YthoiooefclbecaaGreatDoor
