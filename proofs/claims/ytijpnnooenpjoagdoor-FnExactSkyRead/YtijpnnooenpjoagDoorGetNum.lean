/- GetNum: the program's and the specification's functions answer the same, told by 'scan'. -/
import Derived.Test.YtijpnnooenpjoagDoorReadNum
import Derived.Test.YtijpnnooenpjoagDoorAs
namespace Go.Proofs.YtijpnnooenpjoagDoor
open Go.RowKit

set_option maxHeartbeats 400000 in
theorem readNum_neg (s : ByteArray) (p : Int) (w : World) (h : p < 0) :
    Calls Tryd.prog 90 #[.string s, .int .i64 p] w fun e w' => e = .returned (.tuple #[.int .i64 0, .int .i64 0, .iface 158 (.agg #[.int .i64 1])]) ∧ w' = w := by
  go_enter Tryd.func90, Tryd.ntmps90
  go_wp2
  go_step3
  go_wp2
  rw [Exit.noGoto_ret]
  go_ret3
  exact ⟨rfl, rfl⟩

theorem belowA {B : Nat} {a w : World} (h : Below B a w) (hB : B ≤ a.heap.size) (o : Obj) : Below B a (w.alloc o) := h.alloc (Nat.le_trans hB h.size) o

/-- readNum by what it makes, at every place -/
def readRes (s : ByteArray) (p : Int) : Except Int (Nat × Nat) := if p < 0 then .error 1 else scan s p.toNat 10 0 0
theorem readNum_all (s : ByteArray) (p : Int) (w : World) (hs : s.size ≤ 8000) (h1 : p ≤ 9223372036854775807) :
    Calls Tryd.prog 90 #[.string s, .int .i64 p] w fun e w' => e = .returned (numRes (readRes s p)) ∧ w' = w := by
  by_cases h : p < 0
  · rw [readRes, if_pos h]; exact readNum_neg s p w h
  · obtain ⟨n, rfl⟩ : ∃ n : Nat, p = (n : Int) := ⟨p.toNat, by omega⟩
    rw [readRes, if_neg h, Int.toNat_natCast]
    exact readNum_any s n w hs h1

/-- what GetNum answers -/
def outOf : Except Int (Nat × Nat) → Value
  | .error c => .agg #[.int .i64 0, .int .i64 0, .int .i64 c]
  | .ok x => .agg #[.int .i64 (unf x.1), .int .i64 (x.2 : Int), .int .i64 0]
def getRes (s : ByteArray) (p : Int) : Value := if 8000 < s.size then .agg #[.int .i64 0, .int .i64 0, .int .i64 2] else outOf (readRes s p)

theorem shiftUp (u c i : Nat) (hi : i ≤ 9) (hu : u < 2 ^ (7 * i)) (h9 : i = 9 → c ≤ 1) :
    IntKind.u64.wrap ((u : Int) + IntKind.u64.wrap ((c : Int) % 128 * 2 ^ (7 * i))) = ((u + c % 128 * 2 ^ (7 * i) : Nat) : Int) := by
  have hb := step_lt64 u c i hi hu h9
  have hp : (c : Int) % 128 * 2 ^ (7 * i) = ((c % 128 * 2 ^ (7 * i) : Nat) : Int) := by push_cast; rfl
  rw [hp, wrap_u64, wrap_u64]
  generalize c % 128 * 2 ^ (7 * i) = x at *
  omega

set_option maxRecDepth 100000 in
set_option maxHeartbeats 1000000 in
theorem specGetNum_scan (s : ByteArray) (p : Nat) (w : World) (hs : s.size ≤ 8000) (h1 : (p : Int) ≤ 9223372036854775807) :
    Calls Tryd.prog 88 #[.string s, .int .i64 (p : Int)] w fun e w' => e = .returned (outOf (scan s p 10 0 0)) ∧ Below w.heap.size w w' := by
  go_enter Tryd.func88, Tryd.ntmps88
  go_wp2
  go_loop [5, 6] (fun t i => ∃ k u : Nat, k ≤ 9 ∧ i = .int .i64 k ∧ t = .int .u64 u ∧ u < 2 ^ (7 * k) ∧ scan s p 10 0 0 = scan s p (9 - k + 1) k u) (fun _ i => 10 - (intOf i).toNat)
  case atStart => exact ⟨0, 0, by omega, rfl, rfl, by simp, rfl⟩
  case round =>
    obtain ⟨k, u, hk, rfl, rfl, hu, he⟩ := hrel
    by_cases hlt : p + k < s.size
    · have hb : s[p + k].toNat < 256 := UInt8.toNat_lt _
      have hul : (u : Int) ≤ 9223372036854775807 := by have := pow63 hk; omega
      by_cases hw : k = 9 ∧ 1 < s[p + k].toNat
      · have HN := hide (he.trans (scan_wrong (s := s) (p := p) (k := 9 - k) (i := k) (u := u) hlt hw.1 hw.2))
        have hkb : ((k : Int) == 9) = true := by simp; omega
        have hc1 : (1 : Int) < (s[p + k].toNat : Int) := by omega
        clear he hu hw
        go_wp2
        exact bodyPost_ret (v := .agg #[.int .i64 0, .int .i64 0, .int .i64 3]) (by simp [results, Tryd.results88, go_sem]) rfl ⟨by rw [unhide HN]; rfl, (Below.refl _ _).alloc (Nat.le_refl _) _⟩
      · have hO := shiftUp u s[p + k].toNat k hk hu (by omega)
        have HB := step_lt64 u s[p + k].toNat k hk hu (by omega)
        have HP := hide (step_lt_pow u s[p + k].toNat k hu)
        by_cases hc : s[p + k].toNat < 128
        · have HN := hide (he.trans (scan_last (s := s) (p := p) (k := 9 - k) (i := k) (u := u) hlt (by omega) hc))
          clear he hu HP
          generalize u + s[p + k].toNat % 128 * 2 ^ (7 * k) = U at *
          have hc' : (s[p + k].toNat : Int) < 128 := by omega
          have hUb : (U : Int) ≤ 18446744073709551615 := by omega
          by_cases hz : s[p + k].toNat = 0 ∧ 0 < k
          · have HN2 := hide (show scan s p 10 0 0 = .error 3 by rw [unhide HN, if_pos hz])
            have hz1 : ((s[p + k].toNat : Int) == 0) = true := by simp; omega
            have hz2 : (0 : Int) < (k : Int) := by omega
            have hkb : ((k : Int) == 9) = true ∨ ((k : Int) == 9) = false := by cases h : ((k : Int) == 9) <;> simp
            have hc1 : decide ((1 : Int) < (s[p + k].toNat : Int)) = false := by simp; omega
            clear hw hz HB HN
            rcases hkb with hkb | hkb
            all_goals
              go_wp2
              exact bodyPost_ret (v := .agg #[.int .i64 0, .int .i64 0, .int .i64 3]) (by simp [results, Tryd.results88, go_sem]) rfl ⟨by rw [unhide HN2]; rfl, (Below.refl _ _).alloc (Nat.le_refl _) _⟩
          · have HN2 := hide (show scan s p 10 0 0 = .ok (U, p + k + 1) by rw [unhide HN, if_neg hz])
            have hz1 : (((s[p + k].toNat : Int) == 0) = true ∧ k ≤ 0 ∧ ((k : Int) == 9) = false) ∨ (((s[p + k].toNat : Int) == 0) = false ∧ ((k : Int) == 9) = true ∧ (s[p + k].toNat : Int) ≤ 1) ∨ (((s[p + k].toNat : Int) == 0) = false ∧ ((k : Int) == 9) = false) := by
              by_cases h : s[p + k].toNat = 0
              · exact .inl ⟨by simp; omega, by omega, by simp; omega⟩
              · by_cases h9 : k = 9
                · exact .inr (.inl ⟨by simp; omega, by simp; omega, by omega⟩)
                · exact .inr (.inr ⟨by simp; omega, by simp; omega⟩)
            clear hw hz HB HN
            by_cases hpar : U % 2 = 1
            · have hp1 : ((U : Int) % 2 == 1) = true := by simp; omega
              have HF := hide (show unf U = -((U : Int) / 2) - 1 by unfold unf; rw [if_pos hpar]; omega)
              clear hpar
              rcases hz1 with ⟨hz1, hz2, hkb⟩ | ⟨hz1, hkb, hz2⟩ | ⟨hz1, hkb⟩
              all_goals
                go_wp2
                exact bodyPost_ret (v := .agg #[.int .i64 (-((U : Int) / 2) - 1), .int .i64 ((p : Int) + k + 1), .int .i64 0]) (by simp [results, Tryd.results88, go_sem]) rfl ⟨by rw [unhide HN2, ← unhide HF]; simp [outOf], (Below.refl _ _).alloc (Nat.le_refl _) _⟩
            · have hp1 : ((U : Int) % 2 == 1) = false := by simp; omega
              have HF := hide (show unf U = (U : Int) / 2 by unfold unf; rw [if_neg hpar]; omega)
              clear hpar
              rcases hz1 with ⟨hz1, hz2, hkb⟩ | ⟨hz1, hkb, hz2⟩ | ⟨hz1, hkb⟩
              all_goals
                go_wp2
                exact bodyPost_ret (v := .agg #[.int .i64 ((U : Int) / 2), .int .i64 ((p : Int) + k + 1), .int .i64 0]) (by simp [results, Tryd.results88, go_sem]) rfl ⟨by rw [unhide HN2, ← unhide HF]; simp [outOf], (Below.refl _ _).alloc (Nat.le_refl _) _⟩
        · have hk9 : k < 9 := by omega
          have HN := hide (he.trans (scan_more (s := s) (p := p) (k := 9 - k) (i := k) (u := u) hlt hk9 hc))
          have HM := hide (show scan s p 10 0 0 = scan s p (9 - (k + 1) + 1) (k + 1) (u + s[p + k].toNat % 128 * 2 ^ (7 * k)) by rw [show 9 - (k + 1) + 1 = 9 - k by omega]; exact unhide HN)
          have hkb : ((k : Int) == 9) = false := by simp; omega
          have hc' : (128 : Int) ≤ (s[p + k].toNat : Int) := by omega
          have hUb : ((u + s[p + k].toNat % 128 * 2 ^ (7 * k) : Nat) : Int) ≤ 18446744073709551615 := by omega
          clear he hu HB hw HN
          generalize u + s[p + k].toNat % 128 * 2 ^ (7 * k) = U at *
          go_wp2
          go_round
          case rel => exact ⟨k + 1, U, by omega, by go_num, rfl, unhide HP, unhide HM⟩
          case measure => simp [intOf]; omega
    · have HN := hide (he.trans (scan_short (s := s) (p := p) (k := 9 - k) (i := k) (u := u) (by omega)))
      clear he hu
      go_wp2
      exact bodyPost_ret (v := .agg #[.int .i64 0, .int .i64 0, .int .i64 4]) (by simp [results, Tryd.results88, go_sem]) rfl ⟨by rw [unhide HN]; rfl, (Below.refl _ _).alloc (Nat.le_refl _) _⟩

set_option maxHeartbeats 1000000 in
theorem specGetNum_any (s : ByteArray) (p : Int) (w : World) (hs : s.size ≤ 1048576) (h1 : p ≤ 9223372036854775807) :
    Calls Tryd.prog 88 #[.string s, .int .i64 p] w fun e w' => e = .returned (getRes s p) ∧ Below w.heap.size w w' := by
  by_cases h8 : 8000 < s.size
  · rw [getRes, if_pos h8]
    go_enter Tryd.func88, Tryd.ntmps88
    go_wp2
    exact bodyPost_ret (v := .agg #[.int .i64 0, .int .i64 0, .int .i64 2]) (by simp [results, Tryd.results88, go_sem]) rfl ⟨rfl, (Below.refl _ _).alloc (Nat.le_refl _) _⟩
  · by_cases h : p < 0
    · rw [getRes, if_neg h8, readRes, if_pos h]
      go_enter Tryd.func88, Tryd.ntmps88
      go_wp2
      exact bodyPost_ret (v := .agg #[.int .i64 0, .int .i64 0, .int .i64 1]) (by simp [results, Tryd.results88, go_sem]) rfl ⟨rfl, (Below.refl _ _).alloc (Nat.le_refl _) _⟩
    · obtain ⟨n, rfl⟩ : ∃ n : Nat, p = (n : Int) := ⟨p.toNat, by omega⟩
      rw [getRes, if_neg h8, readRes, if_neg h, Int.toNat_natCast]
      exact specGetNum_scan s n w (by omega) h1

theorem getRes_form (s : ByteArray) (p : Int) : ∃ a b c : Int, getRes s p = .agg #[.int .i64 a, .int .i64 b, .int .i64 c] := by
  unfold getRes
  split
  · exact ⟨_, _, _, rfl⟩
  · cases readRes s p with
    | error c => exact ⟨_, _, _, rfl⟩
    | ok x => exact ⟨_, _, _, rfl⟩
end Go.Proofs.YtijpnnooenpjoagDoor
