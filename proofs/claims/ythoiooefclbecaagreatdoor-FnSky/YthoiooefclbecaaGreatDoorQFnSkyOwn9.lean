/- Several texts in one: Seal. -/
import Derived.Test.YthoiooefclbecaaGreatDoorQFnSkyOwn7
import Derived.Test.YthoiooefclbecaaGreatDoorQFnSkyOwn8
namespace Go.Proofs.YthoiooefclbecaaGreatDoor
set_option linter.unusedVariables false
set_option linter.unusedSimpArgs false
set_option maxRecDepth 100000
set_option maxHeartbeats 8000000
section
open Go.RowKit
def jo (n : Int) : ByteArray := strOfNums [n % 256, n / 256 % 256, n / 65536 % 256, n / 16777216]
theorem sP (w : World) (T : TypeId) (c0 c1 c2 c3 : Int) :
  (convert 22 9 (.slice (some ⟨w.heap.size, 0, none⟩) 4 4)).run Tryz.prog (w.alloc (.cells #[.int .u8 c0, .int .u8 c1, .int .u8 c2, .int .u8 c3] T)) = .ok (.string (strOfNums [c0, c1, c2, c3])) (w.alloc (.cells #[.int .u8 c0, .int .u8 c1, .int .u8 c2, .int .u8 c3] T)) := by
 refine run_convert_bytes_arg (P := Tryz.prog) _ 22 5 Tryz.underlying22 Tryz.underlying5 w.heap.size 0 4 4 [c0, c1, c2, c3] rfl ?_ 9 Tryz.underlying9
 intro i hi
 match i, hi with
 | 0, _ => simp
 | 1, _ => simp
 | 2, _ => simp
 | 3, _ => simp
theorem fp (n : Nat) (w : World) (hn : n < 4294967296) :
  Calls Tryz.prog 82 #[.int .i64 (n : Int)] w fun e w' => e = .returned (.string (jo n)) ∧ Below w.heap.size w w' := by
 have hcv := sP w 5 ((n : Int) % 256) ((n : Int) / 256 % 256) ((n : Int) / 65536 % 256) ((n : Int) / 16777216)
 go_enter Tryz.func82, Tryz.ntmps82
 go_wp2
 go_ret
 exact ⟨rfl, (Below.refl _ _).alloc (Nat.le_refl _) _⟩
theorem og (n : Nat) (w : World) (hn : n < 4294967296) :
  Calls Tryz.prog 80 #[.int .i64 (n : Int)] w fun e w' => e = .returned (.string (jo n)) ∧ Below w.heap.size w w' := by
 have hcv := sP w 132 ((n : Int) % 256) ((n : Int) / 256 % 256) ((n : Int) / 65536 % 256) ((n : Int) / 16777216)
 go_enter Tryz.func80, Tryz.ntmps80
 go_wp2
 go_loopw [5] (fun i wr => (i = .int .i64 0 ∧ wr = w.alloc (.cells #[.int .u8 0, .int .u8 0, .int .u8 0, .int .u8 0] 132)) ∨
   (i = .int .i64 1 ∧ wr = w.alloc (.cells #[.int .u8 ((n : Int) % 256), .int .u8 0, .int .u8 0, .int .u8 0] 132)) ∨
   (i = .int .i64 2 ∧ wr = w.alloc (.cells #[.int .u8 ((n : Int) % 256), .int .u8 ((n : Int) / 256 % 256), .int .u8 0, .int .u8 0] 132)) ∨
   (i = .int .i64 3 ∧ wr = w.alloc (.cells #[.int .u8 ((n : Int) % 256), .int .u8 ((n : Int) / 256 % 256), .int .u8 ((n : Int) / 65536 % 256), .int .u8 0] 132)) ∨
   (i = .int .i64 4 ∧ wr = w.alloc (.cells #[.int .u8 ((n : Int) % 256), .int .u8 ((n : Int) / 256 % 256), .int .u8 ((n : Int) / 65536 % 256), .int .u8 ((n : Int) / 16777216)] 132))) (fun i _ => 4 - (intOf i).toNat)
 case atStart => exact .inl ⟨rfl, rfl⟩
 case round =>
  rcases hrel with ⟨rfl, rfl⟩ | ⟨rfl, rfl⟩ | ⟨rfl, rfl⟩ | ⟨rfl, rfl⟩ | ⟨rfl, rfl⟩
  ·go_wp2
   exact ⟨.inr (.inl ⟨rfl, by first | trivial | rfl⟩), by simp [intOf]⟩
  ·go_wp2
   exact ⟨.inr (.inr (.inl ⟨rfl, by first | trivial | rfl⟩)), by simp [intOf]⟩
  ·go_wp2
   exact ⟨.inr (.inr (.inr (.inl ⟨rfl, by first | trivial | rfl⟩))), by simp [intOf]⟩
  ·go_wp2
   exact ⟨.inr (.inr (.inr (.inr ⟨rfl, by first | trivial | rfl⟩))), by simp [intOf]⟩
  ·go_wp2
   go_ret
   exact ⟨rfl, (Below.refl _ _).alloc (Nat.le_refl _) _⟩
def aL (s : ByteArray) : ByteArray := if 7996 < s.size then ⟨#[]⟩ else s ++ jo (dQ 0 s : Nat)
theorem dC (n : Int) : (jo n).size = 4 := by simp [jo, strOfNums_size]
theorem ib (s : ByteArray) (w : World) (hs : s.size ≤ 1048576) :
  Calls Tryz.prog 39 #[.string s] w fun e w' => e = .returned (.string (aL s)) ∧ Below w.heap.size w w' := by
 by_cases h1 : 7996 < s.size
 ·have HS := yz (show aL s = ⟨#[]⟩ by simp [aL, h1])
  go_enter Tryz.func39, Tryz.ntmps39
  go_wp2
  go_ret
  exact ⟨by rw [yy HS]; rfl, Below.refl _ _⟩
 ·have HS := yz (show aL s = s ++ jo (dQ 0 s : Nat) by simp [aL, h1])
  have h4 := dC (dQ 0 s : Nat)
  have hc := gJ (c := 0) s (by omega)
  go_enter Tryz.func39, Tryz.ntmps39
  go_wp2_with (first | (go_at_call 83; refine (gu 0 _ _ (by omega) (by omega)).mono ?_; rintro e w' ⟨rfl, rfl⟩) | (go_at_call 82; refine (fp _ _ hc).mono ?_; rintro e w' ⟨rfl, hb⟩))
  go_ret
  exact ⟨by rw [yy HS]; rfl, hb⟩
theorem dR (s : ByteArray) (w : World) (hs : s.size ≤ 1048576) :
  Calls Tryz.prog 35 #[.string s] w fun e w' => e = .returned (.string (aL s)) ∧ Below w.heap.size w w' := by
 by_cases h1 : 7996 < s.size
 ·have HS := yz (show aL s = ⟨#[]⟩ by simp [aL, h1])
  go_enter Tryz.func35, Tryz.ntmps35
  go_wp2
  go_ret
  exact ⟨by rw [yy HS]; rfl, Below.refl _ _⟩
 ·have HS := yz (show aL s = s ++ jo (dQ 0 s : Nat) by simp [aL, h1])
  have h4 := dC (dQ 0 s : Nat)
  have hc := gJ (c := 0) s (by omega)
  go_enter Tryz.func35, Tryz.ntmps35
  go_wp2_with fail
  refine (ni _ _ hs).mono ?_
  rintro e w' ⟨rfl, rfl⟩
  rw [if_neg (show ¬ 8000 < s.size by omega)]
  go_wp2_with fail
  refine (og _ _ hc).mono ?_
  rintro e w1 ⟨rfl, hb1⟩
  go_wp2_with fail
  refine (cH _ _ _ (by omega) (by omega)).mono ?_
  rintro e w2 ⟨rfl, hb2⟩
  go_wp2
  go_ret
  exact ⟨by rw [yy HS]; rfl, hb1.trans (hb2.mono hb1.size)⟩
end
end Go.Proofs.YthoiooefclbecaaGreatDoor
