/- Several texts in one: ReadNum, ReadA, As, GetNum, Fresh, GetText, CrA. -/
import Derived.Test.YtnffnjljjecphaaDoorRows
import Derived.WalkKit
import Derived.WalkSpells
import Derived.WalkLawsBesides
import Derived.LaidEql
import Derived.Stop.Asserts
import Derived.RowKitTokens
import Derived.RegionTactic
import Derived.BigRegion
import Derived.Test.YtnffnjljjecphaaDoorQCommandReadOwn9
import Derived.Test.YtnffnjljjecphaaDoorQCommandReadOwn2
import Derived.Test.YtnffnjljjecphaaDoorQCommandReadOwn7
namespace Go.Proofs.YtnffnjljjecphaaDoor
open Go.RowKit

set_option maxHeartbeats 400000 in
theorem unfoldSign_any (u : Nat) (w : World) (hu : u < 18446744073709551616) :
    Calls Tryd.prog 117 #[.int .u64 (u : Int)] w fun e w' => e = .returned (.int .i64 (unf u)) ∧ w' = w := by
  have ha : bits .and .u64 (u : Int) 1 = ((u % 2 : Nat) : Int) := by
    have h := u64_and_nat u 1 hu (by omega)
    rw [nat_mask1] at h
    exact h
  by_cases h : u % 2 = 1
  · have hw : (bits .and .u64 (u : Int) 1 == 1) = true := by rw [ha, h]; rfl
    have HF := hide (show wrap64 (bits .xor .u64 IntKind.u64.max ((u : Int) / 2)) = unf u by
      have hm : IntKind.u64.max = 18446744073709551615 := by decide
      have hx : bits .xor .u64 18446744073709551615 ((u / 2 : Nat) : Int) = ((18446744073709551615 - u / 2 : Nat) : Int) := by
        have h1 := u64_xor_nat 18446744073709551615 (u / 2) (by omega) (by omega)
        refine Eq.trans h1 ?_
        congr 1
        have hv : (BitVec.allOnes 64 ^^^ BitVec.ofNat 64 (u / 2)).toNat = 18446744073709551615 - u / 2 := by
          rw [BitVec.allOnes_xor, BitVec.toNat_not, BitVec.toNat_ofNat, Nat.mod_eq_of_lt (by omega)]
        rw [BitVec.toNat_xor, BitVec.toNat_allOnes, BitVec.toNat_ofNat, Nat.mod_eq_of_lt (by omega)] at hv
        simpa using hv
      rw [hm, show ((u : Int) / 2) = ((u / 2 : Nat) : Int) by omega, hx]
      unfold wrap64 unf
      rw [if_pos h]
      omega)
    clear ha
    go_enter Tryd.func117, Tryd.ntmps117
    go_wp2
    go_ret
    exact ⟨by rw [← unhide HF]; rfl, rfl⟩
  · have hw : (bits .and .u64 (u : Int) 1 == 1) = false := by rw [ha]; simp; omega
    have HF := hide (show (u : Int) / 2 = unf u by unfold unf; rw [if_neg h]; omega)
    clear ha
    go_enter Tryd.func117, Tryd.ntmps117
    go_wp2
    go_ret
    exact ⟨by rw [← unhide HF]; rfl, rfl⟩

/-- what readNum hands back -/
def numRes : Except Int (Nat × Nat) → Value
  | .error c => .tuple #[.int .i64 0, .int .i64 0, .iface 157 (.agg #[.int .i64 c])]
  | .ok x => .tuple #[.int .i64 (unf x.1), .int .i64 (x.2 : Int), .nilIface]

def J0 (s : ByteArray) (p : Nat) (a' : Act) : Prop := ∃ (i u : Nat) (ci pl : Int) (b : Value) (u11 u12 u13 u14 u15 u16 u17 u18 u19 u20 u21 u22 u23 u24 u25 u26 u27 u28 u29 u30 u31 u32 u33 u34 u35 u36 u37 u38 u39 u40 u41 u42 u43 u44 u45 u46 u47 u48 u49 u50 u51 u52 u53 u54 u55 u56 : Value), ci = i ∧ pl = (p : Int) + i ∧ i ≤ 9 ∧ u < 2 ^ (7 * i) ∧ scan s p 10 0 0 = scan s p (9 - i + 1) i u ∧
     a' = { tmps := #[.string s, .int .i64 (p : Int), undef, undef, .int .i64 0, .int .i64 0, .nilIface, .int .u64 u, b, .int .i64 ci, .int .i64 pl, u11, u12, u13, u14, u15, u16, u17, u18, u19, u20, u21, u22, u23, u24, u25, u26, u27, u28, u29, u30, u31, u32, u33, u34, u35, u36, u37, u38, u39, u40, u41, u42, u43, u44, u45, u46, u47, u48, u49, u50, u51, u52, u53, u54, u55, u56], defers := [] }
def J1 (s : ByteArray) (p : Nat) (a' : Act) : Prop := ∃ (u0 u1 u2 u3 u4 u5 u6 u7 u8 u9 u10 u11 u12 u13 u14 u15 u16 u17 u18 u19 u20 u21 u22 u23 u24 u25 u26 u27 u28 u29 u30 u31 u32 u33 u34 u35 u36 u37 u38 u39 u40 u41 u42 u43 u44 u45 u46 u47 u48 u49 u50 u51 u52 u53 u54 u55 u56 : Value), scan s p 10 0 0 = .error 3 ∧ a' = { tmps := #[u0, u1, u2, u3, u4, u5, u6, u7, u8, u9, u10, u11, u12, u13, u14, u15, u16, u17, u18, u19, u20, u21, u22, u23, u24, u25, u26, u27, u28, u29, u30, u31, u32, u33, u34, u35, u36, u37, u38, u39, u40, u41, u42, u43, u44, u45, u46, u47, u48, u49, u50, u51, u52, u53, u54, u55, u56], defers := [] }
def J2 (s : ByteArray) (p : Nat) (a' : Act) : Prop := ∃ (i u c : Nat) (ci pl : Int) (u11 u12 u13 u14 u15 u16 u17 u18 u19 u20 u21 u22 u23 u24 u25 u26 u27 u28 u29 u30 u31 u32 u33 u34 u35 u36 u37 u38 u39 u40 u41 u42 u43 u44 u45 u46 u47 u48 u49 u50 u51 u52 u53 u54 u55 u56 : Value), ci = (i : Int) + 1 ∧ pl = (p : Int) + i + 1 ∧ i ≤ 9 ∧ p + i < s.size ∧ u < 18446744073709551616 ∧ c < 128 ∧ scan s p 10 0 0 = (if c = 0 ∧ 0 < i then .error 3 else .ok (u, p + i + 1)) ∧
     a' = { tmps := #[.string s, .int .i64 (p : Int), undef, undef, .int .i64 0, .int .i64 0, .nilIface, .int .u64 u, .int .u8 (c : Int), .int .i64 ci, .int .i64 pl, u11, u12, u13, u14, u15, u16, u17, u18, u19, u20, u21, u22, u23, u24, u25, u26, u27, u28, u29, u30, u31, u32, u33, u34, u35, u36, u37, u38, u39, u40, u41, u42, u43, u44, u45, u46, u47, u48, u49, u50, u51, u52, u53, u54, u55, u56], defers := [] }
def Jr (s : ByteArray) (p : Nat) (w : World) (l : Nat) (a' : Act) (w' : World) : Prop := w' = w ∧ ((l = 0 ∧ J0 s p a') ∨ (l = 1 ∧ J1 s p a') ∨ (l = 2 ∧ J2 s p a'))
def mr (l : Nat) (a' : Act) (_ : World) : Nat := if l = 0 then 20 - (intOf (a'.tmps.getD 9 undef)).toNat else if l = 2 then 2 else 1

set_option maxRecDepth 100000 in
set_option maxHeartbeats 1000000 in
theorem readNum_any (s : ByteArray) (p : Nat) (w : World) (hs : s.size ≤ 8000) (h1 : (p : Int) ≤ 9223372036854775807) :
    Calls Tryd.prog 106 #[.string s, .int .i64 (p : Int)] w fun e w' => e = .returned (numRes (scan s p 10 0 0)) ∧ w' = w := by
  go_enter Tryd.func106, Tryd.ntmps106
  go_wp2
  refine scope_labels (Jr s p w) mr ?_ ?_
  · by_cases hlt : p < s.size
    · have hb : s[p].toNat < 256 := UInt8.toNat_lt _
      have HO := hide (orShift0 s[p].toNat hb)
      by_cases hc : s[p].toNat < 128
      · have HN := hide (scan_last (s := s) (p := p) (k := 9) (i := 0) (u := 0) hlt (by omega) hc)
        go_wp2
        go_step3
        go_wp2
        go_step3
        rw [unhide HO]
        exact ⟨rfl, .inr (.inr ⟨rfl, 0, _, _, _, _, _, _, _, _, _, _, _, _, _, _, _, _, _, _, _, _, _, _, _, _, _, _, _, _, _, _, _, _, _, _, _, _, _, _, _, _, _, _, _, _, _, _, _, _, _, _, by simp, by simp, by omega, hlt, by omega, hc, (unhide HN).trans (by simp), rfl⟩)⟩
      · have HN := hide (scan_more (s := s) (p := p) (k := 9) (i := 0) (u := 0) hlt (by omega) hc)
        go_wp2
        go_step3
        go_wp2
        go_step3
        rw [unhide HO]
        exact ⟨rfl, .inl ⟨rfl, 1, _, _, _, _, _, _, _, _, _, _, _, _, _, _, _, _, _, _, _, _, _, _, _, _, _, _, _, _, _, _, _, _, _, _, _, _, _, _, _, _, _, _, _, _, _, _, _, _, _, _, by simp, by simp, by omega, by omega, (unhide HN).trans (by simp), rfl⟩⟩
    · have HN := hide (scan_short (s := s) (p := p) (k := 9) (i := 0) (u := 0) (by omega))
      go_wp2
      go_step3
      go_wp2
      simp only [jumps]
      go_ret3
      exact ⟨by rw [unhide HN]; rfl, rfl⟩
  · rintro l a' w' ⟨rfl, ⟨rfl, i, u, ci, pl, b, u11, u12, u13, u14, u15, u16, u17, u18, u19, u20, u21, u22, u23, u24, u25, u26, u27, u28, u29, u30, u31, u32, u33, u34, u35, u36, u37, u38, u39, u40, u41, u42, u43, u44, u45, u46, u47, u48, u49, u50, u51, u52, u53, u54, u55, u56, rfl, rfl, hi, hu, he, rfl⟩ | ⟨rfl, u0, u1, u2, u3, u4, u5, u6, u7, u8, u9, u10, u11, u12, u13, u14, u15, u16, u17, u18, u19, u20, u21, u22, u23, u24, u25, u26, u27, u28, u29, u30, u31, u32, u33, u34, u35, u36, u37, u38, u39, u40, u41, u42, u43, u44, u45, u46, u47, u48, u49, u50, u51, u52, u53, u54, u55, u56, he, rfl⟩ | ⟨rfl, i, u, c, ci, pl, u11, u12, u13, u14, u15, u16, u17, u18, u19, u20, u21, u22, u23, u24, u25, u26, u27, u28, u29, u30, u31, u32, u33, u34, u35, u36, u37, u38, u39, u40, u41, u42, u43, u44, u45, u46, u47, u48, u49, u50, u51, u52, u53, u54, u55, u56, rfl, rfl, hi, hps, hu, hc, he, rfl⟩⟩
    · refine ⟨_, rfl, ?_⟩
      by_cases hlt : p + i < s.size
      · have hb : s[p + i].toNat < 256 := UInt8.toNat_lt _
        have hpw := pow63 hi
        by_cases h9 : i = 9
        · subst h9
          by_cases hc1 : 1 < s[p + 9].toNat
          · have HN := hide (he.trans (scan_wrong (s := s) (p := p) (k := 0) (i := 9) (u := u) hlt rfl hc1))
            clear he hu hpw
            go_wp2
            go_step3
            exact ⟨⟨rfl, .inr (.inl ⟨rfl, _, _, _, _, _, _, _, _, _, _, _, _, _, _, _, _, _, _, _, _, _, _, _, _, _, _, _, _, _, _, _, _, _, _, _, _, _, _, _, _, _, _, _, _, _, _, _, _, _, _, _, _, _, _, _, _, _, unhide HN, rfl⟩)⟩, by simp [mr, intOf]⟩
          · have HN := hide (he.trans (scan_last (s := s) (p := p) (k := 0) (i := 9) (u := u) hlt (by omega) (by omega)))
            have HO := hide (orShift9 u s[p + 9].toNat hu hb (by omega))
            have HB := hide (step_lt64 u s[p + 9].toNat 9 (by omega) hu (by omega))
            clear he hu hpw
            go_wp2
            go_step3
            rw [unhide HO]
            exact ⟨⟨rfl, .inr (.inr ⟨rfl, 9, _, _, _, _, _, _, _, _, _, _, _, _, _, _, _, _, _, _, _, _, _, _, _, _, _, _, _, _, _, _, _, _, _, _, _, _, _, _, _, _, _, _, _, _, _, _, _, _, _, _, by simp, by simp, by omega, hlt, unhide HB, by omega, unhide HN, rfl⟩)⟩, by simp [mr, intOf]⟩
        · have hi9 : i < 9 := by omega
          by_cases hc : s[p + i].toNat < 128
          · have HN := hide (he.trans (scan_last (s := s) (p := p) (k := 9 - i) (i := i) (u := u) hlt (by omega) hc))
            have HO := hide (orShift u s[p + i].toNat i hi hu hb (by omega))
            have HB := hide (step_lt64 u s[p + i].toNat i hi hu (by omega))
            clear he hu hpw h9
            go_wp2
            go_step3
            rw [unhide HO]
            exact ⟨⟨rfl, .inr (.inr ⟨rfl, i, _, _, _, _, _, _, _, _, _, _, _, _, _, _, _, _, _, _, _, _, _, _, _, _, _, _, _, _, _, _, _, _, _, _, _, _, _, _, _, _, _, _, _, _, _, _, _, _, _, _, rfl, rfl, by omega, hlt, unhide HB, hc, unhide HN, rfl⟩)⟩, by simp [mr, intOf]; omega⟩
          · have HN := hide (he.trans (scan_more (s := s) (p := p) (k := 9 - i) (i := i) (u := u) hlt hi9 hc))
            have HO := hide (orShift u s[p + i].toNat i hi hu hb (by omega))
            have HB := hide (step_lt_pow u s[p + i].toNat i hu)
            have HM := hide (show scan s p 10 0 0 = scan s p (9 - (i + 1) + 1) (i + 1) (u + s[p + i].toNat % 128 * 2 ^ (7 * i)) by rw [show 9 - (i + 1) + 1 = 9 - i by omega]; exact unhide HN)
            clear he hu hpw h9
            go_wp2
            go_step3
            rw [unhide HO]
            exact ⟨⟨rfl, .inl ⟨rfl, i + 1, _, _, _, _, _, _, _, _, _, _, _, _, _, _, _, _, _, _, _, _, _, _, _, _, _, _, _, _, _, _, _, _, _, _, _, _, _, _, _, _, _, _, _, _, _, _, _, _, _, _, by simp, by simp; omega, by omega, unhide HB, unhide HM, rfl⟩⟩, by simp [mr, intOf]; omega⟩
      · have HN := hide (he.trans (scan_short (s := s) (p := p) (k := 9 - i) (i := i) (u := u) (by omega)))
        clear he hu
        go_wp2
        simp only [jumps]
        go_ret3
        exact ⟨by rw [unhide HN]; rfl, rfl⟩
    · refine ⟨_, rfl, ?_⟩
      have HN := hide he
      clear he
      go_wp2
      simp only [jumps]
      go_ret3
      exact ⟨by rw [unhide HN]; rfl, rfl⟩
    · refine ⟨_, rfl, ?_⟩
      by_cases hz : c = 0
      · subst hz
        by_cases hi0 : 0 < i
        · have HN := hide (show scan s p 10 0 0 = .error 3 by rw [he, if_pos ⟨rfl, hi0⟩])
          clear he
          go_wp2
          go_step3
          exact ⟨⟨rfl, .inr (.inl ⟨rfl, _, _, _, _, _, _, _, _, _, _, _, _, _, _, _, _, _, _, _, _, _, _, _, _, _, _, _, _, _, _, _, _, _, _, _, _, _, _, _, _, _, _, _, _, _, _, _, _, _, _, _, _, _, _, _, _, _, unhide HN, rfl⟩)⟩, by simp [mr]⟩
        · have HN := hide (show scan s p 10 0 0 = .ok (u, p + i + 1) by rw [he, if_neg (by omega)])
          clear he
          obtain rfl : i = 0 := by omega
          go_wp2_with (go_at_call 117; refine (unfoldSign_any _ _ hu).mono ?_; rintro e w' ⟨rfl, hw⟩; obtain rfl := hw.symm)
          simp only [jumps]
          go_ret3
          exact ⟨by rw [unhide HN]; simp [numRes], rfl⟩
      · have HN := hide (show scan s p 10 0 0 = .ok (u, p + i + 1) by rw [he, if_neg (by omega)])
        have hcz : ((c : Int) == 0) = false := by simp; omega
        clear he hz
        go_wp2_with (go_at_call 117; refine (unfoldSign_any _ _ hu).mono ?_; rintro e w' ⟨rfl, hw⟩; obtain rfl := hw.symm)
        simp only [jumps]
        go_ret3
        exact ⟨by rw [unhide HN]; simp [numRes], rfl⟩
end Go.Proofs.YtnffnjljjecphaaDoor

namespace Go.Proofs.YtnffnjljjecphaaDoor
open Go.RowKit
set_option linter.unusedVariables false

def scanN (s : ByteArray) (p : Nat) : Option (Int × Nat) := match scan s p 10 0 0 with | .ok x => some (unf x.1, x.2) | .error _ => none
def read4 (s : ByteArray) (p : Nat) : Option (St × Nat) :=
  match scanN s p with
  | none => none
  | some (a, p1) => match scanN s p1 with
    | none => none
    | some (b, p2) => match scanN s p2 with
      | none => none
      | some (c, p3) => match scanN s p3 with
        | none => none
        | some (d, p4) => some ((a, b, c, d), p4)
def starA (x : St) : Value := .agg #[.int .i64 x.1, .int .i64 x.2.1, .int .i64 x.2.2.1, .int .i64 x.2.2.2]
def starRes (r : Option (St × Nat)) (e : Ending) : Prop := match r with
  | none => ∃ why, e = .returned (.tuple #[starA (0, 0, 0, 0), .int .i64 0, faultA why])
  | some (x, q) => e = .returned (.tuple #[starA x, .int .i64 (q : Int), .nilIface])
theorem scan_le {s : ByteArray} {p : Nat} : ∀ (k i u : Nat) {x : Nat × Nat}, scan s p k i u = .ok x → p + i < x.2 ∧ x.2 ≤ s.size
  | 0, i, u, x, h => by simp [scan] at h
  | k + 1, i, u, x, h => by
    rw [scan] at h
    split at h
    · cases h
    · split at h
      · cases h
      · split at h
        · split at h
          · cases h
          · have := Except.ok.inj h
            subst this
            exact ⟨by simp, by simp; omega⟩
        · have := scan_le k (i + 1) _ h
          omega
theorem scanN_le {s : ByteArray} {p : Nat} {n : Int} {q : Nat} (h : scanN s p = some (n, q)) : p < q ∧ q ≤ s.size := by
  unfold scanN at h
  cases hs : scan s p 10 0 0 with
  | error c => rw [hs] at h; cases h
  | ok x =>
    rw [hs] at h
    have := scan_le 10 0 0 hs
    simp at h
    omega
theorem num_none {s : ByteArray} {p : Nat} (h : scanN s p = none) : ∃ c, numRes (scan s p 10 0 0) = .tuple #[.int .i64 0, .int .i64 0, .iface 157 (.agg #[.int .i64 c])] := by
  unfold scanN at h
  cases hs : scan s p 10 0 0 with
  | error c => exact ⟨c, rfl⟩
  | ok x => rw [hs] at h; cases h
theorem num_some {s : ByteArray} {p q : Nat} {n : Int} (h : scanN s p = some (n, q)) : numRes (scan s p 10 0 0) = .tuple #[.int .i64 n, .int .i64 (q : Int), .nilIface] := by
  unfold scanN at h
  cases hs : scan s p 10 0 0 with
  | error c => rw [hs] at h; cases h
  | ok x =>
    rw [hs] at h
    simp at h
    obtain ⟨rfl, rfl⟩ := h
    rfl
end Go.Proofs.YtnffnjljjecphaaDoor

namespace Go.Proofs.YtnffnjljjecphaaDoor
open Go.RowKit Go.Extern.Stop Go.Stop Go.Extern

theorem methodKind (h : Value) (w : World) : (Go.method 323 170 (.agg #[h]) "Kind").run Tryd.prog w = .ok (157, h) w := by kernel_rfl
theorem kindE (w : World) : ((ReflectliteType.abiMethod fun t => (fun a : Nat => Value.int IntKind.u8 (a : Int)) <$> Rtype.kind t) #[.pointer (some ⟨2, 157, none⟩)]).run Tryd.prog w = .ok (.int .u8 25) w := by kernel_rfl
theorem methodElem (h : Value) (w : World) : (Go.method 323 170 (.agg #[h]) "Elem").run Tryd.prog w = .ok (161, .agg #[h]) w := by kernel_rfl
theorem methodImplements (h : Value) (w : World) : (Go.method 323 170 (.agg #[h]) "Implements").run Tryd.prog w = .ok (162, .agg #[h]) w := by kernel_rfl
theorem methodAssignableTo (h : Value) (w : World) : (Go.method 323 170 (.agg #[h]) "AssignableTo").run Tryd.prog w = .ok (159, .agg #[h]) w := by kernel_rfl
theorem implementsE (w : World) : (ReflectliteType.relation "Implements" ReflectliteType.implements_ #[.agg #[.pointer (some ⟨2, 157, none⟩)], .iface 170 (.agg #[.pointer (some ⟨2, 113, none⟩)])]).run Tryd.prog w = .ok (.bool true) w := by kernel_rfl
theorem typeOfE (v : Value) (w : World) : (ReflectliteType.typeOf #[.iface 157 v]).run Tryd.prog w = .ok (.iface 170 (.agg #[.pointer (some ⟨2, 157, none⟩)])) w := by kernel_rfl
theorem assignableE (w : World) : (ReflectliteType.relation "AssignableTo" ReflectliteType.assignableTo #[.agg #[.pointer (some ⟨2, 157, none⟩)], .iface 170 (.agg #[.pointer (some ⟨2, 157, none⟩)])]).run Tryd.prog w = .ok (.bool true) w := by kernel_rfl
theorem valueOfE (c : Int) (w : World) : (ReflectliteValue.unpack (.iface 157 (.agg #[.int .i64 c]))).run Tryd.prog w
    = .ok (.agg #[.pointer (some ⟨2, 157, none⟩), .pointer (some ⟨w.heap.size, 0, none⟩), .int .u64 153]) (w.alloc (.cells #[.int .i64 c] 157)) := by kernel_rfl
theorem mkE (p : Addr) (w : World) : (ReflectliteValue.mk 157 p ReflectliteValue.flagAddr).run Tryd.prog w = .ok (.agg #[.pointer (some ⟨2, 157, none⟩), .pointer (some p), .int .u64 409]) w := by kernel_rfl
theorem partsEa (a : Addr) (w : World) : (ReflectliteValue.parts (.agg #[.pointer (some ⟨2, 157, none⟩), .pointer (some a), .int .u64 409])).run Tryd.prog w = .ok (some (157, a, 409)) w := by kernel_rfl
theorem partsE (a : Addr) (w : World) : (ReflectliteValue.parts (.agg #[.pointer (some ⟨2, 157, none⟩), .pointer (some a), .int .u64 153])).run Tryd.prog w = .ok (some (157, a, 153)) w := by kernel_rfl
theorem directE (w : World) : (Rtype.directlyAssignable 157 157).run Tryd.prog w = .ok true w := by kernel_rfl
theorem sizeE (w : World) : (sizeOf 157).run Tryd.prog w = .ok 1 w := by kernel_rfl
/-- (Value).Set: the byteFault at 'ta' gets what the Value's own variable 'b' holds. -/
theorem setE (tb to_ : Nat) (b : Nat) (c : Int) (old : Value) (W : World) (hb : W.cell? ⟨b, 0, none⟩ = some (.int .i64 c)) (ht : W.cell? ⟨tb, to_, none⟩ = some old) (hf : W.frozen? ⟨tb, to_, none⟩ = false) :
    (ReflectliteValue.set #[.agg #[.pointer (some ⟨2, 157, none⟩), .pointer (some ⟨tb, to_, none⟩), .int .u64 409], .agg #[.pointer (some ⟨2, 157, none⟩), .pointer (some ⟨b, 0, none⟩), .int .u64 153]]).run Tryd.prog W
      = .ok (.tuple #[]) (W.setCell ⟨tb, to_, none⟩ (.int .i64 c)) := by
  change Sem.run _ (ReflectliteValue.parts (.agg #[.pointer (some ⟨2, 157, none⟩), .pointer (some ⟨tb, to_, none⟩), .int .u64 409]) >>= fun r => ReflectliteValue.parts (.agg #[.pointer (some ⟨2, 157, none⟩), .pointer (some ⟨b, 0, none⟩), .int .u64 153]) >>= _) W = _
  simp only [Sem.run_bind, partsEa, partsE, Result.andThen]
  have hl : (loadCells ⟨b, 0, none⟩ 1).run Tryd.prog W = .ok #[.int .i64 c] W := by
    have := run_loadCells_list (P := Tryd.prog) W ⟨b, 0, none⟩ [.int .i64 c] (fun j v hj => by
      match j, hj with
      | 0, hj => simp at hj; subst hj; simpa [Addr.add] using hb)
    simpa using this
  simp [ReflectliteValue.flagAddr, loadVar, isAgg, underlying, Tryd.underlying157, Result.andThen, directE, storeVar, Value.cells, storeCells, Addr.add, hl]
  rw [run_store Tryd.prog W ⟨tb, to_, none⟩ _ _ (by rfl)]
  simp [ht, hf]

end Go.Proofs.YtnffnjljjecphaaDoor

namespace Go.Proofs.YtnffnjljjecphaaDoor
open Go.RowKit

set_option maxHeartbeats 400000 in
theorem readNum_neg (s : ByteArray) (p : Int) (w : World) (h : p < 0) :
    Calls Tryd.prog 106 #[.string s, .int .i64 p] w fun e w' => e = .returned (.tuple #[.int .i64 0, .int .i64 0, .iface 157 (.agg #[.int .i64 1])]) ∧ w' = w := by
  go_enter Tryd.func106, Tryd.ntmps106
  go_wp2
  go_step3
  go_wp2
  rw [Exit.noGoto_ret]
  go_ret3
  exact ⟨rfl, rfl⟩

theorem belowA {B : Nat} {a w : World} (h : Below B a w) (hB : B ≤ a.heap.size) (o : Obj) : Below B a (w.alloc o) := h.alloc (Nat.le_trans hB h.size) o

/-- readNum by what it makes, at every place -/
def readRes (s : ByteArray) (p : Int) : Except Int (Nat × Nat) := if p < 0 then .error 1 else scan s p.toNat 10 0 0
theorem readNum_all (s : ByteArray) (p : Int) (w : World) (hs : s.size ≤ 8000) (h1 : p ≤ 9223372036854775807) :
    Calls Tryd.prog 106 #[.string s, .int .i64 p] w fun e w' => e = .returned (numRes (readRes s p)) ∧ w' = w := by
  by_cases h : p < 0
  · rw [readRes, if_pos h]; exact readNum_neg s p w h
  · obtain ⟨n, rfl⟩ : ∃ n : Nat, p = (n : Int) := ⟨p.toNat, by omega⟩
    rw [readRes, if_neg h, Int.toNat_natCast]
    exact readNum_any s n w hs h1

/-- what GetNum answers -/
def outOf : Except Int (Nat × Nat) → Value
  | .error c => .agg #[.int .i64 0, .int .i64 0, .int .i64 c]
  | .ok x => .agg #[.int .i64 (unf x.1), .int .i64 (x.2 : Int), .int .i64 0]
def getRes (s : ByteArray) (p : Int) : Value := if 8000 < s.size then .agg #[.int .i64 0, .int .i64 0, .int .i64 2] else outOf (readRes s p)

theorem shiftUp (u c i : Nat) (hi : i ≤ 9) (hu : u < 2 ^ (7 * i)) (h9 : i = 9 → c ≤ 1) :
    IntKind.u64.wrap ((u : Int) + IntKind.u64.wrap ((c : Int) % 128 * 2 ^ (7 * i))) = ((u + c % 128 * 2 ^ (7 * i) : Nat) : Int) := by
  have hb := step_lt64 u c i hi hu h9
  have hp : (c : Int) % 128 * 2 ^ (7 * i) = ((c % 128 * 2 ^ (7 * i) : Nat) : Int) := by push_cast; rfl
  rw [hp, wrap_u64, wrap_u64]
  generalize c % 128 * 2 ^ (7 * i) = x at *
  omega

set_option maxRecDepth 100000 in
set_option maxHeartbeats 1000000 in
theorem specGetNum_scan (s : ByteArray) (p : Nat) (w : World) (hs : s.size ≤ 8000) (h1 : (p : Int) ≤ 9223372036854775807) :
    Calls Tryd.prog 82 #[.string s, .int .i64 (p : Int)] w fun e w' => e = .returned (outOf (scan s p 10 0 0)) ∧ Below w.heap.size w w' := by
  go_enter Tryd.func82, Tryd.ntmps82
  go_wp2
  go_loop [5, 6] (fun t i => ∃ k u : Nat, k ≤ 9 ∧ i = .int .i64 k ∧ t = .int .u64 u ∧ u < 2 ^ (7 * k) ∧ scan s p 10 0 0 = scan s p (9 - k + 1) k u) (fun _ i => 10 - (intOf i).toNat)
  case atStart => exact ⟨0, 0, by omega, rfl, rfl, by simp, rfl⟩
  case round =>
    obtain ⟨k, u, hk, rfl, rfl, hu, he⟩ := hrel
    by_cases hlt : p + k < s.size
    · have hb : s[p + k].toNat < 256 := UInt8.toNat_lt _
      have hul : (u : Int) ≤ 9223372036854775807 := by have := pow63 hk; omega
      by_cases hw : k = 9 ∧ 1 < s[p + k].toNat
      · have HN := hide (he.trans (scan_wrong (s := s) (p := p) (k := 9 - k) (i := k) (u := u) hlt hw.1 hw.2))
        have hkb : ((k : Int) == 9) = true := by simp; omega
        have hc1 : (1 : Int) < (s[p + k].toNat : Int) := by omega
        clear he hu hw
        go_wp2
        exact bodyPost_ret (v := .agg #[.int .i64 0, .int .i64 0, .int .i64 3]) (by simp [results, Tryd.results82, go_sem]) rfl ⟨by rw [unhide HN]; rfl, (Below.refl _ _).alloc (Nat.le_refl _) _⟩
      · have hO := shiftUp u s[p + k].toNat k hk hu (by omega)
        have HB := step_lt64 u s[p + k].toNat k hk hu (by omega)
        have HP := hide (step_lt_pow u s[p + k].toNat k hu)
        by_cases hc : s[p + k].toNat < 128
        · have HN := hide (he.trans (scan_last (s := s) (p := p) (k := 9 - k) (i := k) (u := u) hlt (by omega) hc))
          clear he hu HP
          generalize u + s[p + k].toNat % 128 * 2 ^ (7 * k) = U at *
          have hc' : (s[p + k].toNat : Int) < 128 := by omega
          have hUb : (U : Int) ≤ 18446744073709551615 := by omega
          by_cases hz : s[p + k].toNat = 0 ∧ 0 < k
          · have HN2 := hide (show scan s p 10 0 0 = .error 3 by rw [unhide HN, if_pos hz])
            have hz1 : ((s[p + k].toNat : Int) == 0) = true := by simp; omega
            have hz2 : (0 : Int) < (k : Int) := by omega
            have hkb : ((k : Int) == 9) = true ∨ ((k : Int) == 9) = false := by cases h : ((k : Int) == 9) <;> simp
            have hc1 : decide ((1 : Int) < (s[p + k].toNat : Int)) = false := by simp; omega
            clear hw hz HB HN
            rcases hkb with hkb | hkb
            all_goals
              go_wp2
              exact bodyPost_ret (v := .agg #[.int .i64 0, .int .i64 0, .int .i64 3]) (by simp [results, Tryd.results82, go_sem]) rfl ⟨by rw [unhide HN2]; rfl, (Below.refl _ _).alloc (Nat.le_refl _) _⟩
          · have HN2 := hide (show scan s p 10 0 0 = .ok (U, p + k + 1) by rw [unhide HN, if_neg hz])
            have hz1 : (((s[p + k].toNat : Int) == 0) = true ∧ k ≤ 0 ∧ ((k : Int) == 9) = false) ∨ (((s[p + k].toNat : Int) == 0) = false ∧ ((k : Int) == 9) = true ∧ (s[p + k].toNat : Int) ≤ 1) ∨ (((s[p + k].toNat : Int) == 0) = false ∧ ((k : Int) == 9) = false) := by
              by_cases h : s[p + k].toNat = 0
              · exact .inl ⟨by simp; omega, by omega, by simp; omega⟩
              · by_cases h9 : k = 9
                · exact .inr (.inl ⟨by simp; omega, by simp; omega, by omega⟩)
                · exact .inr (.inr ⟨by simp; omega, by simp; omega⟩)
            clear hw hz HB HN
            by_cases hpar : U % 2 = 1
            · have hp1 : ((U : Int) % 2 == 1) = true := by simp; omega
              have HF := hide (show unf U = -((U : Int) / 2) - 1 by unfold unf; rw [if_pos hpar]; omega)
              clear hpar
              rcases hz1 with ⟨hz1, hz2, hkb⟩ | ⟨hz1, hkb, hz2⟩ | ⟨hz1, hkb⟩
              all_goals
                go_wp2
                exact bodyPost_ret (v := .agg #[.int .i64 (-((U : Int) / 2) - 1), .int .i64 ((p : Int) + k + 1), .int .i64 0]) (by simp [results, Tryd.results82, go_sem]) rfl ⟨by rw [unhide HN2, ← unhide HF]; simp [outOf], (Below.refl _ _).alloc (Nat.le_refl _) _⟩
            · have hp1 : ((U : Int) % 2 == 1) = false := by simp; omega
              have HF := hide (show unf U = (U : Int) / 2 by unfold unf; rw [if_neg hpar]; omega)
              clear hpar
              rcases hz1 with ⟨hz1, hz2, hkb⟩ | ⟨hz1, hkb, hz2⟩ | ⟨hz1, hkb⟩
              all_goals
                go_wp2
                exact bodyPost_ret (v := .agg #[.int .i64 ((U : Int) / 2), .int .i64 ((p : Int) + k + 1), .int .i64 0]) (by simp [results, Tryd.results82, go_sem]) rfl ⟨by rw [unhide HN2, ← unhide HF]; simp [outOf], (Below.refl _ _).alloc (Nat.le_refl _) _⟩
        · have hk9 : k < 9 := by omega
          have HN := hide (he.trans (scan_more (s := s) (p := p) (k := 9 - k) (i := k) (u := u) hlt hk9 hc))
          have HM := hide (show scan s p 10 0 0 = scan s p (9 - (k + 1) + 1) (k + 1) (u + s[p + k].toNat % 128 * 2 ^ (7 * k)) by rw [show 9 - (k + 1) + 1 = 9 - k by omega]; exact unhide HN)
          have hkb : ((k : Int) == 9) = false := by simp; omega
          have hc' : (128 : Int) ≤ (s[p + k].toNat : Int) := by omega
          have hUb : ((u + s[p + k].toNat % 128 * 2 ^ (7 * k) : Nat) : Int) ≤ 18446744073709551615 := by omega
          clear he hu HB hw HN
          generalize u + s[p + k].toNat % 128 * 2 ^ (7 * k) = U at *
          go_wp2
          go_round
          case rel => exact ⟨k + 1, U, by omega, by go_num, rfl, unhide HP, unhide HM⟩
          case measure => simp [intOf]; omega
    · have HN := hide (he.trans (scan_short (s := s) (p := p) (k := 9 - k) (i := k) (u := u) (by omega)))
      clear he hu
      go_wp2
      exact bodyPost_ret (v := .agg #[.int .i64 0, .int .i64 0, .int .i64 4]) (by simp [results, Tryd.results82, go_sem]) rfl ⟨by rw [unhide HN]; rfl, (Below.refl _ _).alloc (Nat.le_refl _) _⟩

set_option maxHeartbeats 1000000 in
theorem specGetNum_any (s : ByteArray) (p : Int) (w : World) (hs : s.size ≤ 1048576) (h1 : p ≤ 9223372036854775807) :
    Calls Tryd.prog 82 #[.string s, .int .i64 p] w fun e w' => e = .returned (getRes s p) ∧ Below w.heap.size w w' := by
  by_cases h8 : 8000 < s.size
  · rw [getRes, if_pos h8]
    go_enter Tryd.func82, Tryd.ntmps82
    go_wp2
    exact bodyPost_ret (v := .agg #[.int .i64 0, .int .i64 0, .int .i64 2]) (by simp [results, Tryd.results82, go_sem]) rfl ⟨rfl, (Below.refl _ _).alloc (Nat.le_refl _) _⟩
  · by_cases h : p < 0
    · rw [getRes, if_neg h8, readRes, if_pos h]
      go_enter Tryd.func82, Tryd.ntmps82
      go_wp2
      exact bodyPost_ret (v := .agg #[.int .i64 0, .int .i64 0, .int .i64 1]) (by simp [results, Tryd.results82, go_sem]) rfl ⟨rfl, (Below.refl _ _).alloc (Nat.le_refl _) _⟩
    · obtain ⟨n, rfl⟩ : ∃ n : Nat, p = (n : Int) := ⟨p.toNat, by omega⟩
      rw [getRes, if_neg h8, readRes, if_neg h, Int.toNat_natCast]
      exact specGetNum_scan s n w (by omega) h1

theorem getRes_form (s : ByteArray) (p : Int) : ∃ a b c : Int, getRes s p = .agg #[.int .i64 a, .int .i64 b, .int .i64 c] := by
  unfold getRes
  split
  · exact ⟨_, _, _, rfl⟩
  · cases readRes s p with
    | error c => exact ⟨_, _, _, rfl⟩
    | ok x => exact ⟨_, _, _, rfl⟩
end Go.Proofs.YtnffnjljjecphaaDoor

namespace Go.Proofs.YtnffnjljjecphaaDoor
open Go.RowKit

theorem freshText_any (a : ByteArray) (w : World) (ha : a.size ≤ 100000) :
    Calls Tryd.prog 84 #[.string a] w fun e w' => e = .returned (.string a) ∧ Below w.heap.size w w' := by
  obtain ⟨M, hM, hmk⟩ := mkBytes a.size (by omega)
  have hinfo : (Tryd.prog.info? 5).map (·.size) = some 1 := by kernel_rfl
  have hcp := Lib.run_copy_row_string (P := Tryd.prog) (w.alloc (.cells M 5)) 116 9 3 5 w.heap.size 0 a.size a.size a M 5 Tryd.underlying116 hinfo (heap_alloc_new w _) (by omega) (by omega)
  rw [setRow_alloc] at hcp
  obtain ⟨Y1, hY1⟩ : ∃ Y, Y = (M.toList.take 0 ++ Lib.byteCells a.data.toList ++ M.toList.drop (0 + a.size)).toArray := ⟨_, rfl⟩
  rw [← hY1] at hcp
  have hY1l : Y1.toList = Lib.byteCells a.data.toList := by rw [hY1]; simp [← hM]
  have hcv := convBytes w 5 Y1 a hY1l a.size
  clear hY1 hY1l hinfo hM
  go_enter Tryd.func84, Tryd.ntmps84
  go_wp2
  go_ret
  exact ⟨rfl, (Below.refl _ _).alloc (Nat.le_refl _) _⟩
end Go.Proofs.YtnffnjljjecphaaDoor

namespace Go.Proofs.YtnffnjljjecphaaDoor
open Go.RowKit

theorem scan_ok {s : ByteArray} {p : Nat} : ∀ (k i u : Nat) (x : Nat × Nat), i + k ≤ 10 → u < 2 ^ (7 * i) → scan s p k i u = .ok x → x.2 ≤ s.size ∧ x.1 < 18446744073709551616
  | 0, i, u, x, _, _, h => by simp [scan] at h
  | k + 1, i, u, x, hik, hu, h => by
    rw [scan] at h
    split at h
    · simp at h
    · rename_i h1
      split at h
      · simp at h
      · rename_i h2
        split at h
        · split at h
          · simp at h
          · simp at h
            subst h
            exact ⟨by simp; omega, step_lt64 u _ i (by omega) hu (by omega)⟩
        · rename_i h3
          have h9 : i < 9 := by omega
          exact scan_ok k (i + 1) _ x (by omega) (step_lt_pow u _ i hu) h
theorem readRes_ok {s : ByteArray} {p : Int} {x : Nat × Nat} (h : readRes s p = .ok x) : x.2 ≤ s.size ∧ x.1 < 18446744073709551616 := by
  unfold readRes at h
  split at h
  · simp at h
  · exact scan_ok 10 0 0 x (by omega) (by simp) h

/-- what is read as a text -/
def textRes (s : ByteArray) (p : Int) : Except Int (ByteArray × Nat) :=
  match readRes s p with
  | .error c => .error c
  | .ok x => if unf x.1 < 0 ∨ 8000 < unf x.1 then .error 3 else if (s.size : Int) - (x.2 : Int) < unf x.1 then .error 4 else .ok (s.extract x.2 (x.2 + (unf x.1).toNat), x.2 + (unf x.1).toNat)
def textTup : Except Int (ByteArray × Nat) → Value
  | .error c => .tuple #[.string ⟨#[]⟩, .int .i64 0, .iface 157 (.agg #[.int .i64 c])]
  | .ok x => .tuple #[.string x.1, .int .i64 (x.2 : Int), .nilIface]
def textOut : Except Int (ByteArray × Nat) → Value
  | .error c => .agg #[.string ⟨#[]⟩, .int .i64 0, .int .i64 c]
  | .ok x => .agg #[.string x.1, .int .i64 (x.2 : Int), .int .i64 0]

set_option maxHeartbeats 1000000 in
theorem readText_any (s : ByteArray) (p : Int) (w : World) (hs : s.size ≤ 8000) (h1 : p ≤ 9223372036854775807) :
    Calls Tryd.prog 107 #[.string s, .int .i64 p] w fun e w' => e = .returned (textTup (textRes s p)) ∧ Below w.heap.size w w' := by
  cases hr : readRes s p with
  | error c =>
    have HC := hide (fun w => (by have := readNum_all s p w hs h1; rw [hr] at this; exact this : Calls Tryd.prog 106 #[.string s, .int .i64 p] w fun e w' => e = .returned (.tuple #[.int .i64 0, .int .i64 0, .iface 157 (.agg #[.int .i64 c])]) ∧ w' = w))
    have HT := hide (show textRes s p = .error c by unfold textRes; rw [hr])
    clear hr
    go_enter Tryd.func107, Tryd.ntmps107
    go_wp2_with fail
    refine (unhide HC _).mono ?_
    rintro e w' ⟨rfl, rfl⟩
    go_wp2
    go_ret3
    exact ⟨by rw [unhide HT]; rfl, Below.refl _ _⟩
  | ok x =>
    have hb := readRes_ok hr
    have hur := unf_range x.1 hb.2
    have HC := hide (fun w => (by have := readNum_all s p w hs h1; rw [hr] at this; exact this : Calls Tryd.prog 106 #[.string s, .int .i64 p] w fun e w' => e = .returned (.tuple #[.int .i64 (unf x.1), .int .i64 (x.2 : Int), .nilIface]) ∧ w' = w))
    have HT := hide (show textRes s p = if unf x.1 < 0 ∨ 8000 < unf x.1 then .error 3 else if (s.size : Int) - (x.2 : Int) < unf x.1 then .error 4 else .ok (s.extract x.2 (x.2 + (unf x.1).toNat), x.2 + (unf x.1).toNat) by unfold textRes; rw [hr])
    have hq := hb.1
    clear hr hb
    generalize unf x.1 = n at *
    generalize x.2 = q at *
    by_cases hn : n < 0 ∨ 8000 < n
    · have HT2 := hide (show textRes s p = .error 3 by rw [unhide HT, if_pos hn])
      have hn2 : n < 0 ∨ (0 ≤ n ∧ 8000 < n) := by omega
      rcases hn2 with hn0 | hn0
      all_goals
        clear hn HT
        go_enter Tryd.func107, Tryd.ntmps107
        go_wp2_with fail
        refine (unhide HC _).mono ?_
        rintro e w' ⟨rfl, rfl⟩
        go_wp2
        go_ret3
        exact ⟨by rw [unhide HT2]; rfl, Below.refl _ _⟩
    · by_cases hsh : (s.size : Int) - (q : Int) < n
      · have HT2 := hide (show textRes s p = .error 4 by rw [unhide HT, if_neg hn, if_pos hsh])
        have hn0 : 0 ≤ n := by omega
        have hn8 : n ≤ 8000 := by omega
        clear hn HT hur
        go_enter Tryd.func107, Tryd.ntmps107
        go_wp2_with fail
        refine (unhide HC _).mono ?_
        rintro e w' ⟨rfl, rfl⟩
        go_wp2
        go_ret3
        exact ⟨by rw [unhide HT2]; rfl, Below.refl _ _⟩
      · have HT2 := hide (show textRes s p = .ok (s.extract q (q + n.toNat), q + n.toNat) by rw [unhide HT, if_neg hn, if_neg hsh])
        obtain ⟨m, rfl⟩ : ∃ m : Nat, n = (m : Int) := ⟨n.toNat, by omega⟩
        rw [Int.toNat_natCast] at HT2
        have hm8 : m ≤ 8000 := by omega
        have hqm : q + m ≤ s.size := by omega
        have hqi : (q : Int) ≤ (q : Int) + (m : Int) ∧ (q : Int) + (m : Int) ≤ (s.size : Int) := by omega
        clear hn HT hur hsh
        go_enter Tryd.func107, Tryd.ntmps107
        go_wp2_with fail
        refine (unhide HC _).mono ?_
        rintro e w' ⟨rfl, hw⟩
        obtain rfl := hw.symm
        go_wp2_with fail
        refine (freshText_any _ _ (by simp; omega)).mono ?_
        rintro e w1 ⟨rfl, hb1⟩
        go_wp2
        go_ret3
        exact ⟨by rw [unhide HT2]; rfl, hb1⟩

theorem slot3 {w w1 : World} {T : TypeId} {v0 v1 v2 : Value} (hb : Below (w.alloc (.cells #[v0, v1, v2] T)).heap.size (w.alloc (.cells #[v0, v1, v2] T)) w1) :
    w1.cell? ⟨w.heap.size, 0, none⟩ = some v0 ∧ w1.cell? ⟨w.heap.size, 1, none⟩ = some v1 ∧ w1.cell? ⟨w.heap.size, 2, none⟩ = some v2 ∧
    w1.frozen? ⟨w.heap.size, 0, none⟩ = false ∧ w1.frozen? ⟨w.heap.size, 1, none⟩ = false ∧ w1.frozen? ⟨w.heap.size, 2, none⟩ = false ∧ w.heap.size < w1.heap.size ∧ Below w.heap.size w w1 := by
  have hlt : w.heap.size < (w.alloc (.cells #[v0, v1, v2] T)).heap.size := by simp
  refine ⟨?_, ?_, ?_, ?_, ?_, ?_, Nat.lt_of_lt_of_le hlt hb.size, ((Below.refl _ w).alloc (Nat.le_refl _) _).trans (hb.mono (Nat.le_of_lt hlt))⟩
  · rw [hb.cell (p := ⟨w.heap.size, 0, none⟩) hlt]; simp
  · rw [hb.cell (p := ⟨w.heap.size, 1, none⟩) hlt]; simp
  · rw [hb.cell (p := ⟨w.heap.size, 2, none⟩) hlt]; simp
  · rw [hb.frozen (p := ⟨w.heap.size, 0, none⟩) hlt]; simp
  · rw [hb.frozen (p := ⟨w.heap.size, 1, none⟩) hlt]; simp
  · rw [hb.frozen (p := ⟨w.heap.size, 2, none⟩) hlt]; simp

def getTextRes (s : ByteArray) (p : Int) : Value := if 8000 < s.size then .agg #[.string ⟨#[]⟩, .int .i64 0, .int .i64 2] else textOut (textRes s p)

end Go.Proofs.YtnffnjljjecphaaDoor

namespace Go.Proofs.YtnffnjljjecphaaDoor
open Go.RowKit Go.Sort
set_option linter.unusedVariables false
set_option linter.unusedSimpArgs false

theorem scanN_yes {t : ByteArray} {q q' : Nat} {n : Int} (h : scanN t q = some (n, q')) : numRes (scan t q 10 0 0) = .tuple #[.int .i64 n, .int .i64 (q' : Int), .nilIface] := by
  unfold scanN at h
  split at h
  · rename_i x hx
    rw [hx]
    injection h with h
    injection h with h1 h2
    rw [← h1, ← h2]
    rfl
  · cases h
theorem scanN_no {t : ByteArray} {q : Nat} (h : scanN t q = none) : ∃ c, numRes (scan t q 10 0 0) = .tuple #[.int .i64 0, .int .i64 0, .iface 157 (.agg #[.int .i64 c])] := by
  unfold scanN at h
  split at h
  · cases h
  · rename_i c hc
    exact ⟨c, by rw [hc]; rfl⟩
theorem readN_yes {t : ByteArray} {q q' : Nat} {n : Int} (ht : t.size ≤ 8000) (hq : q ≤ 8000) (h : scanN t q = some (n, q')) (W : World) : Calls Tryd.prog 106 #[.string t, .int .i64 (q : Int)] W fun e w' => e = .returned (.tuple #[.int .i64 n, .int .i64 (q' : Int), .nilIface]) ∧ Below W.heap.size W w' :=
  (readNum_all t (q : Int) W ht (by omega)).mono fun e w' hh => ⟨by rw [hh.1, readRes, if_neg (by omega), Int.toNat_natCast, scanN_yes h], by rw [hh.2]; exact Below.refl _ _⟩
theorem readN_no {t : ByteArray} {q : Nat} (ht : t.size ≤ 8000) (hq : q ≤ 8000) (h : scanN t q = none) : ∃ c, ∀ W : World, Calls Tryd.prog 106 #[.string t, .int .i64 (q : Int)] W fun e w' => e = .returned (.tuple #[.int .i64 0, .int .i64 0, .iface 157 (.agg #[.int .i64 c])]) ∧ Below W.heap.size W w' := by
  obtain ⟨c, hc⟩ := scanN_no h
  exact ⟨c, fun W => (readNum_all t (q : Int) W ht (by omega)).mono fun e w' hh => ⟨by rw [hh.1, readRes, if_neg (by omega), Int.toNat_natCast, hc], by rw [hh.2]; exact Below.refl _ _⟩⟩
theorem gSetC {w w1 : World} {g : Nat} (h : w.grownBy w1 (some g)) (i : Nat) (v : Value) : w.grownBy (w1.setCell ⟨g, i, none⟩ v) (some g) :=
  ⟨h.os, h.tape, h.output, by simpa [World.setCell] using h.size, fun k hk hne => by rw [Below.heap_setCell _ _ _ _ (fun e => hne (by rw [e]))]; exact h.block k hk hne⟩
theorem grownN {w w' : World} {b : Nat} (h : Below w.heap.size w w') : w.grownBy w' (some b) := ⟨h.os, h.tape, h.output, h.size, fun k hk _ => h.block k hk⟩

set_option maxHeartbeats 2000000 in
set_option maxRecDepth 100000 in
theorem number_yes (b : Nat) (t : ByteArray) (q q' : Nat) (n : Int) (w : World) (ht : t.size ≤ 8000) (hq : q ≤ 8000) (h : scanN t q = some (n, q')) (hR : Blk w b [.string t, .int .i64 (q : Int)] 126) :
    Calls Tryd.prog 85 #[.pointer (some ⟨b, 0, none⟩)] w fun e w' => e = .returned (.int .i64 n) ∧ Blk w' b [.string t, .int .i64 (q' : Int)] 126 ∧ w.grownBy w' (some b) := by
  have cN := hide (fun W => readN_yes ht hq h W)
  have HR := hide hR
  have r0 := cell_regrown (hR.cell 0 _ rfl)
  have r1 := cell_regrown (hR.cell 1 _ rfl)
  clear hR h
  go_enter Tryd.func85, Tryd.ntmps85
  go_wp2_with fail
  refine wp_region_quiet_below (by kernel_rfl) (by kernel_rfl) ?_
  repeat (go_big_quiet_step (with_reducible exact Calls.regrown_of (unhide cN _)))
  refine wpQuiet_nil ?_
  intro _ hw'
  obtain ⟨⟨dq, osq⟩, hw''⟩ := hw'
  subst hw''
  have hx := below_regrown w dq osq
  have R1 := hide ((unhide HR).kept hx)
  have G1 := hide (grownN (b := b) hx)
  generalize grow (redrawn w dq) osq = W2 at hx R1 G1 ⊢
  clear hx r0 r1 cN
  go_wp2_with fail
  refine (must_yes _).mono ?_
  rintro e w3 ⟨rfl, hw⟩
  rw [hw]
  clear hw w3
  have c1 := (unhide R1).cell 1 _ rfl
  have f1 := (unhide R1).free 1
  go_wp2_with fail
  go_ret
  exact ⟨rfl, (unhide R1).set 1 _, gSetC (unhide G1) 1 _⟩
set_option maxHeartbeats 2000000 in
set_option maxRecDepth 100000 in
theorem number_no (b : Nat) (t : ByteArray) (q : Nat) (p : Addr) (w : World) (ht : t.size ≤ 8000) (hq : q ≤ 8000) (h : scanN t q = none) (hR : Blk w b [.string t, .int .i64 (q : Int)] 126) (hE : ErrCmd p w) :
    Calls Tryd.prog 85 #[.pointer (some ⟨b, 0, none⟩)] w fun e w' => e = noCmd p ∧ Below w.heap.size w w' := by
  obtain ⟨c, cN0⟩ := readN_no ht hq h
  have cN := hide cN0
  have HE := hide hE
  have r0 := cell_regrown (hR.cell 0 _ rfl)
  have r1 := cell_regrown (hR.cell 1 _ rfl)
  clear hR h cN0 hE
  go_enter Tryd.func85, Tryd.ntmps85
  go_wp2_with fail
  refine wp_region_quiet_below (by kernel_rfl) (by kernel_rfl) ?_
  repeat (go_big_quiet_step (with_reducible exact Calls.regrown_of (unhide cN _)))
  refine wpQuiet_nil ?_
  intro _ hw'
  obtain ⟨⟨dq, osq⟩, hw''⟩ := hw'
  subst hw''
  have hx := below_regrown w dq osq
  have B1 := hide hx
  generalize grow (redrawn w dq) osq = W2 at hx B1 ⊢
  clear hx r0 r1 cN
  go_wp2_with fail
  refine (must_no p _ ((unhide HE).kept (unhide B1))).mono ?_
  rintro e w3 ⟨rfl, hw⟩
  rw [hw]
  clear hw w3
  exact ⟨rfl, rfl, unhide B1⟩
end Go.Proofs.YtnffnjljjecphaaDoor
