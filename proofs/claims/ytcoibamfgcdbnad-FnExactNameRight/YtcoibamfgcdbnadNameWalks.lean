/- The walks for NameRight: what the specification's NameRight and the program's NameRight answer at every text of at most 1048576 bytes, both by one plain function 'nameB'. -/
import Derived.Test.YtcoibamfgcdbnadRows
import Derived.WalkKit
import Derived.WalkSpells
import Derived.WalkLawsBesides
namespace Go.Proofs.Ytcoibamfgcdbnad
open Go.RowKit

theorem hide {p : Prop} (h : p) : Hid p := h
theorem unhide {p : Prop} (h : Hid p) : p := h

def letB (c : Int) : Bool := decide (97 ≤ c) && decide (c ≤ 122)
def digB (c : Int) : Bool := decide (48 ≤ c) && decide (c ≤ 57)
def okAt (i : Nat) (c : Int) : Bool := letB c || (i != 0 && (digB c || c == 95))
def byteAt (s : ByteArray) (i : Nat) : Int := if h : i < s.size then (s[i].toNat : Int) else 0
def okTo (s : ByteArray) : Nat → Bool
  | 0 => true
  | k + 1 => okTo s k && okAt k (byteAt s k)
def nameB (s : ByteArray) : Bool := decide (1 ≤ s.size) && decide (s.size ≤ 20) && okTo s s.size

theorem byteAt_lt {s : ByteArray} {k : Nat} (h : k < s.size) : byteAt s k = (s[k].toNat : Int) := by simp [byteAt, h]
theorem okTo_false {s : ByteArray} {k n : Nat} (hk : k < n) (h : okAt k (byteAt s k) = false) : okTo s n = false := by
  induction n with
  | zero => omega
  | succ n ih =>
    simp only [okTo]
    by_cases e : k = n
    · subst e; simp [h]
    · rw [ih (by omega)]; rfl

set_option maxHeartbeats 400000 in
theorem isLetter_any (c : Int) (w : World) :
    Calls Try.prog 19 #[.int .u8 c] w fun e w' => e = .returned (.bool (letB c)) ∧ w' = w := by
  by_cases h1 : 97 ≤ c
  · by_cases h2 : c ≤ 122
    all_goals
      go_enter Try.func19, Try.ntmps19
      go_wp2
      go_ret
      simp [letB, h1, h2]
  · go_enter Try.func19, Try.ntmps19
    go_wp2
    go_ret
    simp [letB]; omega

set_option maxHeartbeats 400000 in
theorem isDigit_any (c : Int) (w : World) :
    Calls Try.prog 20 #[.int .u8 c] w fun e w' => e = .returned (.bool (digB c)) ∧ w' = w := by
  by_cases h1 : 48 ≤ c
  · by_cases h2 : c ≤ 57
    all_goals
      go_enter Try.func20, Try.ntmps20
      go_wp2
      go_ret
      simp [digB, h1, h2]
  · go_enter Try.func20, Try.ntmps20
    go_wp2
    go_ret
    simp [digB]; omega

set_option maxHeartbeats 1000000 in
theorem specName_any (s : ByteArray) (w : World) (hs : s.size ≤ 1048576) :
    Calls Try.prog 8 #[.string s] w fun e w' => e = .returned (.bool (nameB s)) ∧ w' = w := by
  by_cases h1 : s.size < 1
  · go_enter Try.func8, Try.ntmps8
    go_wp2
    go_ret
    simp [nameB]; omega
  by_cases h2 : 20 < s.size
  · go_enter Try.func8, Try.ntmps8
    go_wp2
    go_ret
    simp [nameB]; omega
  go_enter Try.func8, Try.ntmps8
  go_wp2
  go_loop [3] (fun i => ∃ k : Nat, k ≤ s.size ∧ i = .int .i64 k ∧ okTo s k = true) (fun i => s.size - (intOf i).toNat)
  case atStart => exact ⟨0, Nat.zero_le _, rfl, rfl⟩
  case round =>
    obtain ⟨k, hk, rfl, hok⟩ := hrel
    by_cases hlt : k < s.size
    · have HO : Hid (okTo s k = true) := hok
      clear hok
      have hb := byteAt_lt hlt
      have HB : Hid (byteAt s k = (s[k].toNat : Int)) := hb
      clear hb
      by_cases hk0 : k = 0
      · subst hk0
        have hc : (s[0].toNat : Int) < 97 ∨ (97 ≤ (s[0].toNat : Int) ∧ (s[0].toNat : Int) ≤ 122) ∨ 123 ≤ (s[0].toNat : Int) := by omega
        rcases hc with hc | hc | hc
        · go_wp2
          go_ret
          have hf : okAt 0 (byteAt s 0) = false := by rw [HB.out]; simp [okAt, letB]; omega
          exact ⟨by simp [nameB, okTo_false hlt hf], rfl⟩
        · go_wp2
          go_round
          case rel => exact ⟨0 + 1, by omega, by go_num, by rw [okTo, HO.out, HB.out]; simp [okAt, letB]; omega⟩
          case measure => simp [intOf]; omega
        · have hd : decide ((s[0].toNat : Int) ≤ 122) = false := by simp; omega
          go_wp2
          go_ret
          have hf : okAt 0 (byteAt s 0) = false := by rw [HB.out]; simp [okAt, letB]; omega
          exact ⟨by simp [nameB, okTo_false hlt hf], rfl⟩
      · have hkb : ((k : Int) == 0) = false := by simp; omega
        have HK := hide hk0
        clear hk0
        have hc : (((s[k].toNat : Int) < 48 ∨ (58 ≤ (s[k].toNat : Int) ∧ (s[k].toNat : Int) ≤ 94) ∨ ((s[k].toNat : Int) = 96 ∨ 123 ≤ (s[k].toNat : Int))) ∨ ((48 ≤ (s[k].toNat : Int) ∧ (s[k].toNat : Int) ≤ 57) ∨ (s[k].toNat : Int) = 95 ∨ (97 ≤ (s[k].toNat : Int) ∧ (s[k].toNat : Int) ≤ 122))) := by omega
        rcases hc with hc | hc
        · have hf : okAt k (byteAt s k) = false := by rw [HB.out]; simp [okAt, letB, digB]; omega
          have hn : nameB s = false := by simp [nameB, okTo_false hlt hf]
          have HN := hide hn
          clear hn hf
          have hne : ((s[k].toNat : Int) != 95) = true := by rw [bne_iff_ne]; omega
          rcases hc with hc | hc | hc
          · go_wp2
            go_ret
            exact ⟨by simp [unhide HN], rfl⟩
          · have hd : decide ((s[k].toNat : Int) ≤ 57) = false := by simp; omega
            go_wp2
            go_ret
            exact ⟨by simp [unhide HN], rfl⟩
          · have hd : decide ((s[k].toNat : Int) ≤ 57) = false := by simp; omega
            rcases hc with hc | hc
            · have h96 : (96 : Int) ≤ (s[k].toNat : Int) ∧ (s[k].toNat : Int) ≤ 96 := by omega
              clear hc
              go_wp2
              go_ret
              exact ⟨by simp [unhide HN], rfl⟩
            · have hd2 : decide ((s[k].toNat : Int) ≤ 122) = false := by simp; omega
              go_wp2
              go_ret
              exact ⟨by simp [unhide HN], rfl⟩
        · have hf : okTo s (k + 1) = true := by rw [okTo, HO.out, HB.out]; simp [okAt, letB, digB]; have := unhide HK; omega
          have HN := hide hf
          clear hf
          rcases hc with hc | hc | hc
          · have hd : decide ((s[k].toNat : Int) ≤ 57) = true := by simp; omega
            go_wp2
            go_round
            case rel => exact ⟨k + 1, by omega, by go_num, unhide HN⟩
            case measure => simp [intOf]; omega
          · have hd : decide ((s[k].toNat : Int) ≤ 57) = false := by simp; omega
            have hne : ((s[k].toNat : Int) != 95) = false := by rw [bne_eq_false_iff_eq]; exact hc
            have h95 : (95 : Int) ≤ (s[k].toNat : Int) ∧ (s[k].toNat : Int) ≤ 95 := by omega
            clear hc
            go_wp2
            go_round
            case rel => exact ⟨k + 1, by omega, by go_num, unhide HN⟩
            case measure => simp [intOf]; omega
          · go_wp2
            go_round
            case rel => exact ⟨k + 1, by omega, by go_num, unhide HN⟩
            case measure => simp [intOf]; omega
    · go_wp2
      go_ret
      have e : k = s.size := by omega
      subst e
      simp [nameB, hok]; omega
set_option maxHeartbeats 1000000 in
theorem implName_any (s : ByteArray) (w : World) (hs : s.size ≤ 1048576) :
    Calls Try.prog 9 #[.string s] w fun e w' => e = .returned (.bool (nameB s)) ∧ w' = w := by
  by_cases h1 : s.size < 1
  · go_enter Try.func9, Try.ntmps9
    go_wp2
    go_ret
    simp [nameB]; omega
  by_cases h2 : 20 < s.size
  · go_enter Try.func9, Try.ntmps9
    go_wp2
    go_ret
    simp [nameB]; omega
  have h0 : 0 < s.size := by omega
  have HB0 := hide (byteAt_lt h0)
  have d1 : decide ((s.size : Int) < 1) = false := by simp; omega
  have d2 : decide ((20 : Int) < (s.size : Int)) = false := by simp; omega
  by_cases hL : letB (s[0].toNat : Int) = true
  · have hok1 : okTo s 1 = true := by simp [okTo, okAt, HB0.out, hL]
    have HO1 := hide hok1
    clear hok1
    go_enter Try.func9, Try.ntmps9
    go_wp2_with (go_at_call 19; refine (isLetter_any _ _).mono ?_; rintro e w' ⟨rfl, rfl⟩)
    go_loop [3] (fun i => ∃ k : Nat, 1 ≤ k ∧ k ≤ s.size ∧ i = .int .i64 k ∧ okTo s k = true) (fun i => s.size - (intOf i).toNat)
    case atStart => exact ⟨1, by omega, by omega, rfl, HO1.out⟩
    case round =>
      obtain ⟨k, hk1, hk, rfl, hok⟩ := hrel
      have HO := hide hok
      clear hok
      by_cases hlt : k < s.size
      · have HB := hide (byteAt_lt hlt)
        by_cases hl : letB (s[k].toNat : Int) = true
        · have HN := hide (show okTo s (k + 1) = true by rw [okTo, HO.out, HB.out]; simp [okAt, hl])
          go_wp2_with (first | (go_at_call 19; refine (isLetter_any _ _).mono ?_; rintro e w' ⟨rfl, rfl⟩) | (go_at_call 20; refine (isDigit_any _ _).mono ?_; rintro e w' ⟨rfl, rfl⟩))
          go_round
          case rel => exact ⟨k + 1, by omega, by omega, by go_num, unhide HN⟩
          case measure => simp [intOf]; omega
        · have hl' : letB (s[k].toNat : Int) = false := by simpa using hl
          clear hl
          have HK := hide (show (k != 0) = true by simp; omega)
          by_cases hd : digB (s[k].toNat : Int) = true
          · have HN := hide (show okTo s (k + 1) = true by rw [okTo, HO.out, HB.out]; simp [okAt, hd, HK.out])
            go_wp2_with (first | (go_at_call 19; refine (isLetter_any _ _).mono ?_; rintro e w' ⟨rfl, rfl⟩) | (go_at_call 20; refine (isDigit_any _ _).mono ?_; rintro e w' ⟨rfl, rfl⟩))
            go_round
            case rel => exact ⟨k + 1, by omega, by omega, by go_num, unhide HN⟩
            case measure => simp [intOf]; omega
          · have hd' : digB (s[k].toNat : Int) = false := by simpa using hd
            clear hd
            by_cases h95 : (s[k].toNat : Int) = 95
            · have hne : ((s[k].toNat : Int) != 95) = false := by rw [bne_eq_false_iff_eq]; exact h95
              have HN := hide (show okTo s (k + 1) = true by rw [okTo, HO.out, HB.out]; simp [okAt, h95]; omega)
              clear h95
              go_wp2_with (first | (go_at_call 19; refine (isLetter_any _ _).mono ?_; rintro e w' ⟨rfl, rfl⟩) | (go_at_call 20; refine (isDigit_any _ _).mono ?_; rintro e w' ⟨rfl, rfl⟩))
              go_round
              case rel => exact ⟨k + 1, by omega, by omega, by go_num, unhide HN⟩
              case measure => simp [intOf]; omega
            · have hne : ((s[k].toNat : Int) != 95) = true := by rw [bne_iff_ne]; exact h95
              have hf : okAt k (byteAt s k) = false := by rw [HB.out]; simp [okAt, hl', hd', h95]
              have HN := hide (show nameB s = false by simp [nameB, okTo_false hlt hf])
              clear h95 hf
              go_wp2_with (first | (go_at_call 19; refine (isLetter_any _ _).mono ?_; rintro e w' ⟨rfl, rfl⟩) | (go_at_call 20; refine (isDigit_any _ _).mono ?_; rintro e w' ⟨rfl, rfl⟩))
              go_ret
              exact ⟨by simp [unhide HN], rfl⟩
      · go_wp2
        go_ret
        have e : k = s.size := by omega
        subst e
        simp [nameB, HO.out]; omega
  · have hL' : letB (s[0].toNat : Int) = false := by simpa using hL
    clear hL
    have hf : okAt 0 (byteAt s 0) = false := by simp [okAt, HB0.out, hL']
    have HF := hide hf
    clear hf
    go_enter Try.func9, Try.ntmps9
    go_wp2_with (go_at_call 19; refine (isLetter_any _ _).mono ?_; rintro e w' ⟨rfl, rfl⟩)
    go_ret
    simp [nameB, okTo_false h0 HF.out]
end Go.Proofs.Ytcoibamfgcdbnad
