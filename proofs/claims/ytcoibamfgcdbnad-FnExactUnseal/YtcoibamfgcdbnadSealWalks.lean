/- The walks for Seal: what the specification's and the program's functions answer, both by one plain function 'sealOf'. -/
import Derived.Test.YtcoibamfgcdbnadRows
import Derived.Test.YtcoibamfgcdbnadPlain
import Derived.Test.YtcoibamfgcdbnadCrcWalks
import Derived.WalkKit
import Derived.WalkSpells
import Derived.WalkLawsBesides
import Derived.Lib.BufferWrite
import Derived.Lib.SlBytesRow
namespace Go.Proofs.Ytcoibamfgcdbnad
open Go.RowKit

def four (n : Int) : ByteArray := strOfNums [n % 256, n / 256 % 256, n / 65536 % 256, n / 16777216]

theorem conv4 (w : World) (T : TypeId) (c0 c1 c2 c3 : Int) :
    (convert 37 9 (.slice (some ⟨w.heap.size, 0, none⟩) 4 4)).run Try.prog (w.alloc (.cells #[.int .u8 c0, .int .u8 c1, .int .u8 c2, .int .u8 c3] T)) = .ok (.string (strOfNums [c0, c1, c2, c3])) (w.alloc (.cells #[.int .u8 c0, .int .u8 c1, .int .u8 c2, .int .u8 c3] T)) := by
  refine run_convert_bytes_arg (P := Try.prog) _ 37 5 Try.underlying37 Try.underlying5 w.heap.size 0 4 4 [c0, c1, c2, c3] rfl ?_ 9 Try.underlying9
  intro i hi
  match i, hi with
  | 0, _ => simp
  | 1, _ => simp
  | 2, _ => simp
  | 3, _ => simp

set_option maxHeartbeats 400000 in
theorem l01Four_any (n : Nat) (w : World) (hn : n < 4294967296) :
    Calls Try.prog 23 #[.int .i64 (n : Int)] w fun e w' => e = .returned (.string (four n)) ∧ Below w.heap.size w w' := by
  have hcv := conv4 w 5 ((n : Int) % 256) ((n : Int) / 256 % 256) ((n : Int) / 65536 % 256) ((n : Int) / 16777216)
  go_enter Try.func23, Try.ntmps23
  go_wp2
  go_ret
  exact ⟨rfl, (Below.refl _ _).alloc (Nat.le_refl _) _⟩

set_option maxHeartbeats 400000 in
theorem sumText_any (n : Nat) (w : World) (hn : n < 4294967296) :
    Calls Try.prog 25 #[.int .i64 (n : Int)] w fun e w' => e = .returned (.string (four n)) ∧ Below w.heap.size w w' := by
  have hcv := conv4 w 38 ((n : Int) % 256) ((n : Int) / 256 % 256) ((n : Int) / 65536 % 256) ((n : Int) / 16777216)
  go_enter Try.func25, Try.ntmps25
  go_wp2
  go_loopw [5] (fun i wr => (i = .int .i64 0 ∧ wr = w.alloc (.cells #[.int .u8 0, .int .u8 0, .int .u8 0, .int .u8 0] 38)) ∨
      (i = .int .i64 1 ∧ wr = w.alloc (.cells #[.int .u8 ((n : Int) % 256), .int .u8 0, .int .u8 0, .int .u8 0] 38)) ∨
      (i = .int .i64 2 ∧ wr = w.alloc (.cells #[.int .u8 ((n : Int) % 256), .int .u8 ((n : Int) / 256 % 256), .int .u8 0, .int .u8 0] 38)) ∨
      (i = .int .i64 3 ∧ wr = w.alloc (.cells #[.int .u8 ((n : Int) % 256), .int .u8 ((n : Int) / 256 % 256), .int .u8 ((n : Int) / 65536 % 256), .int .u8 0] 38)) ∨
      (i = .int .i64 4 ∧ wr = w.alloc (.cells #[.int .u8 ((n : Int) % 256), .int .u8 ((n : Int) / 256 % 256), .int .u8 ((n : Int) / 65536 % 256), .int .u8 ((n : Int) / 16777216)] 38))) (fun i _ => 4 - (intOf i).toNat)
  case atStart => exact .inl ⟨rfl, rfl⟩
  case round =>
    rcases hrel with ⟨rfl, rfl⟩ | ⟨rfl, rfl⟩ | ⟨rfl, rfl⟩ | ⟨rfl, rfl⟩ | ⟨rfl, rfl⟩
    · go_wp2
      exact ⟨.inr (.inl ⟨rfl, by first | trivial | rfl⟩), by simp [intOf]⟩
    · go_wp2
      exact ⟨.inr (.inr (.inl ⟨rfl, by first | trivial | rfl⟩)), by simp [intOf]⟩
    · go_wp2
      exact ⟨.inr (.inr (.inr (.inl ⟨rfl, by first | trivial | rfl⟩))), by simp [intOf]⟩
    · go_wp2
      exact ⟨.inr (.inr (.inr (.inr ⟨rfl, by first | trivial | rfl⟩))), by simp [intOf]⟩
    · go_wp2
      go_ret
      exact ⟨rfl, (Below.refl _ _).alloc (Nat.le_refl _) _⟩

theorem info5 : ∃ i : TypeInfo, Try.prog.info? 5 = some i ∧ i.zero = some (.int .u8 0) ∧ i.size = 1 ∧ i.bytes = 1 := by
  refine ⟨_, rfl, ?_, ?_, ?_⟩ <;> kernel_rfl

theorem mk37 (n : Nat) (h : n ≤ 281474976710656) : ∃ M : Array Value, M.size = n ∧ ∀ W : World, (Instr.makeSlice 37 (.int .i64 (n : Int)) (.int .i64 (n : Int))).run Try.prog W = .ok (.slice (some ⟨W.heap.size, 0, none⟩) n n) (W.alloc (.cells M 5)) := by
  obtain ⟨i0, hi, hz0, hz1, hz2⟩ := info5
  refine ⟨madeCells (Value.int .u8 0).cells (((n : Nat) : Int).toNat * i0.size), by rw [size_madeCells, hz1]; simp, fun W => ?_⟩
  have h := run_make (P := Try.prog) W 37 5 i0 (.int .u8 0) Try.underlying37 hi hz0 .i64 .i64 (n : Int) (n : Int) (by omega) (by omega) (by rw [hz2]; omega) (by omega)
  simpa using h

theorem setRow_alloc (w : World) (M Y : Array Value) (T : TypeId) : (w.alloc (.cells M T)).setRow w.heap.size Y = w.alloc (.cells Y T) := by
  unfold World.setRow World.alloc
  congr 1
  apply Array.ext
  · simp
  · intro i h1 h2
    have h3 : i < w.heap.size + 1 := by simpa using h2
    simp only [Array.getElem_modify, Array.getElem_push]
    by_cases e : i = w.heap.size
    · subst e; simp
    · have h4 : i < w.heap.size := by omega
      simp [Ne.symm e, h4]

theorem convBytes (w : World) (T : TypeId) (Y : Array Value) (s : ByteArray) (hY : Y.toList = Lib.byteCells s.data.toList) (cap : Nat) :
    (convert 37 9 (.slice (some ⟨w.heap.size, 0, none⟩) s.size cap)).run Try.prog (w.alloc (.cells Y T)) = .ok (.string s) (w.alloc (.cells Y T)) := by
  refine Lib.run_convert_whole (P := Try.prog) _ 37 5 9 Try.underlying37 Try.underlying5 Try.underlying9 w.heap.size 0 s ?_ cap
  intro i hi
  have hl : Y[i]? = some (.int .u8 (s[i].toNat : Int)) := by
    rw [← Array.getElem?_toList, hY, Lib.byteCells, List.getElem?_map]
    have : s.data.toList[i]? = some s[i] := by rw [Array.getElem?_toList]; exact Array.getElem?_eq_getElem hi
    rw [this]; rfl
  simp [hl]

theorem append_empty (a : ByteArray) : a ++ ByteArray.empty = a := by
  apply ByteArray.ext
  simp

set_option maxHeartbeats 400000 in
theorem joinTexts_empty (a : ByteArray) (w : World) (ha : a.size ≤ 100000) :
    Calls Try.prog 24 #[.string a, .string ByteArray.empty] w fun e w' => e = .returned (.string a) ∧ Below w.heap.size w w' := by
  obtain ⟨M, hM, hmk⟩ := mk37 a.size (by omega)
  have hinfo : (Try.prog.info? 5).map (·.size) = some 1 := by kernel_rfl
  have hcp := Lib.run_copy_row_string (P := Try.prog) (w.alloc (.cells M 5)) 37 9 3 5 w.heap.size 0 a.size a.size a M 5 Try.underlying37 hinfo (heap_alloc_new w _) (by omega) (by omega)
  rw [setRow_alloc] at hcp
  obtain ⟨Y1, hY1⟩ : ∃ Y, Y = (M.toList.take 0 ++ Lib.byteCells a.data.toList ++ M.toList.drop (0 + a.size)).toArray := ⟨_, rfl⟩
  rw [← hY1] at hcp
  have hY1l : Y1.toList = Lib.byteCells a.data.toList := by rw [hY1]; simp [← hM]
  have hcp2 : ∀ d dLen dCap W, (Builtin.copy_ #[37, 9] 3 #[.slice d dLen dCap, .string ByteArray.empty]).run Try.prog W = .ok (goInt 0) W := fun d dLen dCap W => Lib.run_copy_empty_string W 37 9 3 5 d dLen dCap ByteArray.empty Try.underlying37 (by rw [hinfo]; rfl) rfl
  have hcv := convBytes w 5 Y1 a hY1l a.size
  clear hY1 hY1l hinfo hM
  go_enter Try.func24, Try.ntmps24
  go_wp2
  go_ret
  exact ⟨rfl, (Below.refl _ _).alloc (Nat.le_refl _) _⟩

set_option maxHeartbeats 400000 in
theorem joinTexts_any (a b : ByteArray) (w : World) (ha : a.size ≤ 100000) (hb : b.size ≤ 100000) :
    Calls Try.prog 24 #[.string a, .string b] w fun e w' => e = .returned (.string (a ++ b)) ∧ Below w.heap.size w w' := by
  obtain ⟨M, hM, hmk0⟩ := mk37 (a.size + b.size) (by omega)
  have hmk : ∀ W : World, (Instr.makeSlice 37 (.int .i64 ((a.size : Int) + (b.size : Int))) (.int .i64 ((a.size : Int) + (b.size : Int)))).run Try.prog W = .ok (.slice (some ⟨W.heap.size, 0, none⟩) (a.size + b.size) (a.size + b.size)) (W.alloc (.cells M 5)) := fun W => by have := hmk0 W; simpa using this
  clear hmk0
  have hinfo : (Try.prog.info? 5).map (·.size) = some 1 := by kernel_rfl
  have hcp := Lib.run_copy_row_string (P := Try.prog) (w.alloc (.cells M 5)) 37 9 3 5 w.heap.size 0 (a.size + b.size) (a.size + b.size) a M 5 Try.underlying37 hinfo (heap_alloc_new w _) (by omega) (by omega)
  rw [setRow_alloc] at hcp
  obtain ⟨Y1, hY1⟩ : ∃ Y, Y = (M.toList.take 0 ++ Lib.byteCells a.data.toList ++ M.toList.drop (0 + a.size)).toArray := ⟨_, rfl⟩
  rw [← hY1] at hcp
  have hla : (Lib.byteCells a.data.toList).length = a.size := by rw [Lib.byteCells_length, ← Lib.size_eq]
  have hlb : (Lib.byteCells b.data.toList).length = b.size := by rw [Lib.byteCells_length, ← Lib.size_eq]
  have hY1l : Y1.toList = Lib.byteCells a.data.toList ++ M.toList.drop a.size := by rw [hY1]; simp
  have hY1s : Y1.size = a.size + b.size := by rw [← Array.length_toList, hY1l]; simp [hla, hM]
  have hab : (a ++ b).data.toList = a.data.toList ++ b.data.toList := by simp
  have hs : (a ++ b).size = a.size + b.size := by simp
  clear hY1
  by_cases h0 : b = ByteArray.empty
  · subst h0
    refine (joinTexts_empty a w ha).mono ?_
    rintro e w' ⟨rfl, hw⟩
    exact ⟨by rw [append_empty], hw⟩
  · have hpos : 0 < b.size := by
      rcases Nat.eq_zero_or_pos b.size with h | h
      · exact absurd (ByteArray.ext (Array.eq_empty_of_size_eq_zero h)) h0
      · exact h
    have hcp2 := Lib.run_copy_row_string (P := Try.prog) (w.alloc (.cells Y1 5)) 37 9 3 5 w.heap.size a.size b.size b.size b Y1 5 Try.underlying37 hinfo (heap_alloc_new w _) (by omega) (by omega)
    rw [setRow_alloc] at hcp2
    obtain ⟨Y2, hY2⟩ : ∃ Y, Y = (Y1.toList.take a.size ++ Lib.byteCells b.data.toList ++ Y1.toList.drop (a.size + b.size)).toArray := ⟨_, rfl⟩
    rw [← hY2] at hcp2
    have hY2l : Y2.toList = Lib.byteCells (a ++ b).data.toList := by
      rw [hY2, hab, hY1l]
      rw [List.take_left' hla, List.drop_of_length_le (by simp [hla, hM])]
      simp [Lib.byteCells]
    have hcv := convBytes w 5 Y2 (a ++ b) hY2l (a.size + b.size)
    rw [hs] at hcv
    clear hY2 hY2l hab hs hY1l hla hlb
    go_enter Try.func24, Try.ntmps24
    go_wp2
    go_ret
    exact ⟨rfl, (Below.refl _ _).alloc (Nat.le_refl _) _⟩

set_option maxHeartbeats 400000 in
theorem freshText_any (a : ByteArray) (w : World) (ha : a.size ≤ 100000) :
    Calls Try.prog 26 #[.string a] w fun e w' => e = .returned (.string a) ∧ Below w.heap.size w w' := by
  obtain ⟨M, hM, hmk⟩ := mk37 a.size (by omega)
  have hinfo : (Try.prog.info? 5).map (·.size) = some 1 := by kernel_rfl
  have hcp := Lib.run_copy_row_string (P := Try.prog) (w.alloc (.cells M 5)) 37 9 3 5 w.heap.size 0 a.size a.size a M 5 Try.underlying37 hinfo (heap_alloc_new w _) (by omega) (by omega)
  rw [setRow_alloc] at hcp
  obtain ⟨Y1, hY1⟩ : ∃ Y, Y = (M.toList.take 0 ++ Lib.byteCells a.data.toList ++ M.toList.drop (0 + a.size)).toArray := ⟨_, rfl⟩
  rw [← hY1] at hcp
  have hY1l : Y1.toList = Lib.byteCells a.data.toList := by rw [hY1]; simp [← hM]
  have hcv := convBytes w 5 Y1 a hY1l a.size
  clear hY1 hY1l hinfo hM
  go_enter Try.func26, Try.ntmps26
  go_wp2
  go_ret
  exact ⟨rfl, (Below.refl _ _).alloc (Nat.le_refl _) _⟩

def sealOf (s : ByteArray) : ByteArray := if 7996 < s.size then ⟨#[]⟩ else s ++ four (crcOf 0 s : Nat)
theorem four_size (n : Int) : (four n).size = 4 := by simp [four, strOfNums_size]

set_option maxHeartbeats 400000 in
theorem specSeal_any (s : ByteArray) (w : World) (hs : s.size ≤ 1048576) :
    Calls Try.prog 14 #[.string s] w fun e w' => e = .returned (.string (sealOf s)) ∧ Below w.heap.size w w' := by
  by_cases h1 : 7996 < s.size
  · have HS := hide (show sealOf s = ⟨#[]⟩ by simp [sealOf, h1])
    go_enter Try.func14, Try.ntmps14
    go_wp2
    go_ret
    exact ⟨by rw [unhide HS]; rfl, Below.refl _ _⟩
  · have HS := hide (show sealOf s = s ++ four (crcOf 0 s : Nat) by simp [sealOf, h1])
    have h4 := four_size (crcOf 0 s : Nat)
    have hc := crcOf_lt (c := 0) s (by omega)
    go_enter Try.func14, Try.ntmps14
    go_wp2_with (first | (go_at_call 21; refine (l01Crc_any 0 _ _ (by omega) (by omega)).mono ?_; rintro e w' ⟨rfl, rfl⟩) | (go_at_call 23; refine (l01Four_any _ _ hc).mono ?_; rintro e w' ⟨rfl, hb⟩))
    go_ret
    exact ⟨by rw [unhide HS]; rfl, hb⟩

set_option maxHeartbeats 400000 in
theorem implSeal_any (s : ByteArray) (w : World) (hs : s.size ≤ 1048576) :
    Calls Try.prog 15 #[.string s] w fun e w' => e = .returned (.string (sealOf s)) ∧ Below w.heap.size w w' := by
  by_cases h1 : 7996 < s.size
  · have HS := hide (show sealOf s = ⟨#[]⟩ by simp [sealOf, h1])
    go_enter Try.func15, Try.ntmps15
    go_wp2
    go_ret
    exact ⟨by rw [unhide HS]; rfl, Below.refl _ _⟩
  · have HS := hide (show sealOf s = s ++ four (crcOf 0 s : Nat) by simp [sealOf, h1])
    have h4 := four_size (crcOf 0 s : Nat)
    have hc := crcOf_lt (c := 0) s (by omega)
    go_enter Try.func15, Try.ntmps15
    go_wp2_with fail
    refine (implCrc_any _ _ hs).mono ?_
    rintro e w' ⟨rfl, rfl⟩
    rw [if_neg (show ¬ 8000 < s.size by omega)]
    go_wp2_with fail
    refine (sumText_any _ _ hc).mono ?_
    rintro e w1 ⟨rfl, hb1⟩
    go_wp2_with fail
    refine (joinTexts_any _ _ _ (by omega) (by omega)).mono ?_
    rintro e w2 ⟨rfl, hb2⟩
    go_wp2
    go_ret
    exact ⟨by rw [unhide HS]; rfl, hb1.trans (hb2.mono hb1.size)⟩
end Go.Proofs.Ytcoibamfgcdbnad
