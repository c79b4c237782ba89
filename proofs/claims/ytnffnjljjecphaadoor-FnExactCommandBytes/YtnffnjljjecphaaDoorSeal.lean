/- Seal: the specification's and the program's functions answer the same text, 'sealOf'. -/
import Derived.Test.YtnffnjljjecphaaDoorJoin
import Derived.Test.YtnffnjljjecphaaDoorCrcWalks
namespace Go.Proofs.YtnffnjljjecphaaDoor
open Go.RowKit

def four (n : Int) : ByteArray := strOfNums [n % 256, n / 256 % 256, n / 65536 % 256, n / 16777216]

theorem conv4 (w : World) (T : TypeId) (c0 c1 c2 c3 : Int) :
    (convert 116 9 (.slice (some ⟨w.heap.size, 0, none⟩) 4 4)).run Tryd.prog (w.alloc (.cells #[.int .u8 c0, .int .u8 c1, .int .u8 c2, .int .u8 c3] T)) = .ok (.string (strOfNums [c0, c1, c2, c3])) (w.alloc (.cells #[.int .u8 c0, .int .u8 c1, .int .u8 c2, .int .u8 c3] T)) := by
  refine run_convert_bytes_arg (P := Tryd.prog) _ 116 5 Tryd.underlying116 Tryd.underlying5 w.heap.size 0 4 4 [c0, c1, c2, c3] rfl ?_ 9 Tryd.underlying9
  intro i hi
  match i, hi with
  | 0, _ => simp
  | 1, _ => simp
  | 2, _ => simp
  | 3, _ => simp

theorem l01Four_any (n : Nat) (w : World) (hn : n < 4294967296) :
    Calls Tryd.prog 77 #[.int .i64 (n : Int)] w fun e w' => e = .returned (.string (four n)) ∧ Below w.heap.size w w' := by
  have hcv := conv4 w 5 ((n : Int) % 256) ((n : Int) / 256 % 256) ((n : Int) / 65536 % 256) ((n : Int) / 16777216)
  go_enter Tryd.func77, Tryd.ntmps77
  go_wp2
  go_ret
  exact ⟨rfl, (Below.refl _ _).alloc (Nat.le_refl _) _⟩

theorem sumText_any (n : Nat) (w : World) (hn : n < 4294967296) :
    Calls Tryd.prog 79 #[.int .i64 (n : Int)] w fun e w' => e = .returned (.string (four n)) ∧ Below w.heap.size w w' := by
  have hcv := conv4 w 144 ((n : Int) % 256) ((n : Int) / 256 % 256) ((n : Int) / 65536 % 256) ((n : Int) / 16777216)
  go_enter Tryd.func79, Tryd.ntmps79
  go_wp2
  go_loopw [5] (fun i wr => (i = .int .i64 0 ∧ wr = w.alloc (.cells #[.int .u8 0, .int .u8 0, .int .u8 0, .int .u8 0] 144)) ∨
      (i = .int .i64 1 ∧ wr = w.alloc (.cells #[.int .u8 ((n : Int) % 256), .int .u8 0, .int .u8 0, .int .u8 0] 144)) ∨
      (i = .int .i64 2 ∧ wr = w.alloc (.cells #[.int .u8 ((n : Int) % 256), .int .u8 ((n : Int) / 256 % 256), .int .u8 0, .int .u8 0] 144)) ∨
      (i = .int .i64 3 ∧ wr = w.alloc (.cells #[.int .u8 ((n : Int) % 256), .int .u8 ((n : Int) / 256 % 256), .int .u8 ((n : Int) / 65536 % 256), .int .u8 0] 144)) ∨
      (i = .int .i64 4 ∧ wr = w.alloc (.cells #[.int .u8 ((n : Int) % 256), .int .u8 ((n : Int) / 256 % 256), .int .u8 ((n : Int) / 65536 % 256), .int .u8 ((n : Int) / 16777216)] 144))) (fun i _ => 4 - (intOf i).toNat)
  case atStart => exact .inl ⟨rfl, rfl⟩
  case round =>
    rcases hrel with ⟨rfl, rfl⟩ | ⟨rfl, rfl⟩ | ⟨rfl, rfl⟩ | ⟨rfl, rfl⟩ | ⟨rfl, rfl⟩
    · go_wp2
      exact ⟨.inr (.inl ⟨rfl, by first | trivial | rfl⟩), by simp [intOf]⟩
    · go_wp2
      exact ⟨.inr (.inr (.inl ⟨rfl, by first | trivial | rfl⟩)), by simp [intOf]⟩
    · go_wp2
      exact ⟨.inr (.inr (.inr (.inl ⟨rfl, by first | trivial | rfl⟩))), by simp [intOf]⟩
    · go_wp2
      exact ⟨.inr (.inr (.inr (.inr ⟨rfl, by first | trivial | rfl⟩))), by simp [intOf]⟩
    · go_wp2
      go_ret
      exact ⟨rfl, (Below.refl _ _).alloc (Nat.le_refl _) _⟩

def sealOf (s : ByteArray) : ByteArray := if 7996 < s.size then ⟨#[]⟩ else s ++ four (crcOf 0 s : Nat)

theorem four_size (n : Int) : (four n).size = 4 := by simp [four, strOfNums_size]

theorem specSeal_any (s : ByteArray) (w : World) (hs : s.size ≤ 1048576) :
    Calls Tryd.prog 41 #[.string s] w fun e w' => e = .returned (.string (sealOf s)) ∧ Below w.heap.size w w' := by
  by_cases h1 : 7996 < s.size
  · have HS := hide (show sealOf s = ⟨#[]⟩ by simp [sealOf, h1])
    go_enter Tryd.func41, Tryd.ntmps41
    go_wp2
    go_ret
    exact ⟨by rw [unhide HS]; rfl, Below.refl _ _⟩
  · have HS := hide (show sealOf s = s ++ four (crcOf 0 s : Nat) by simp [sealOf, h1])
    have h4 := four_size (crcOf 0 s : Nat)
    have hc := crcOf_lt (c := 0) s (by omega)
    go_enter Tryd.func41, Tryd.ntmps41
    go_wp2_with (first | (go_at_call 78; refine (l01Crc_any 0 _ _ (by omega) (by omega)).mono ?_; rintro e w' ⟨rfl, rfl⟩) | (go_at_call 77; refine (l01Four_any _ _ hc).mono ?_; rintro e w' ⟨rfl, hb⟩))
    go_ret
    exact ⟨by rw [unhide HS]; rfl, hb⟩

theorem implSeal_any (s : ByteArray) (w : World) (hs : s.size ≤ 1048576) :
    Calls Tryd.prog 43 #[.string s] w fun e w' => e = .returned (.string (sealOf s)) ∧ Below w.heap.size w w' := by
  by_cases h1 : 7996 < s.size
  · have HS := hide (show sealOf s = ⟨#[]⟩ by simp [sealOf, h1])
    go_enter Tryd.func43, Tryd.ntmps43
    go_wp2
    go_ret
    exact ⟨by rw [unhide HS]; rfl, Below.refl _ _⟩
  · have HS := hide (show sealOf s = s ++ four (crcOf 0 s : Nat) by simp [sealOf, h1])
    have h4 := four_size (crcOf 0 s : Nat)
    have hc := crcOf_lt (c := 0) s (by omega)
    go_enter Tryd.func43, Tryd.ntmps43
    go_wp2_with fail
    refine (implCrc_any _ _ hs).mono ?_
    rintro e w' ⟨rfl, rfl⟩
    rw [if_neg (show ¬ 8000 < s.size by omega)]
    go_wp2_with fail
    refine (sumText_any _ _ hc).mono ?_
    rintro e w1 ⟨rfl, hb1⟩
    go_wp2_with fail
    refine (joinTexts_any _ _ _ (by omega) (by omega)).mono ?_
    rintro e w2 ⟨rfl, hb2⟩
    go_wp2
    go_ret
    exact ⟨by rw [unhide HS]; rfl, hb1.trans (hb2.mono hb1.size)⟩
end Go.Proofs.YtnffnjljjecphaaDoor
