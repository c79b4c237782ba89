/- A look for blobs in memory; whether a pixel is lit: the specification's. -/
import Derived.Test.YtackifnnhjbgbaaFrC
import Derived.Test.YtackifnnhjbgbaaBlM
import Derived.Test.YtackifnnhjbgbaaRowV
namespace Go.Proofs.Ytackifnnhjbgbaa
open Go.RowKit Go.Sort
set_option linter.unusedVariables false

/-- which pixels were seen lies in block sb -/
def SeenAt (w : World) (sb n : Nat) (T : Nat → Bool) : Prop := RowV w 4 sb n (fun j => .bool (T j))
def lookL (wd ht : Int) (s : ByteArray) (lv : Int) (sb n : Nat) : List Value := [.int .i64 wd, .int .i64 ht, .string s, .int .i64 lv, .slice (some ⟨sb, 0, none⟩) n n]
def LookAt (w : World) (xb : Nat) (wd ht : Int) (s : ByteArray) (lv : Int) (sb n : Nat) : Prop := Blk w xb (lookL wd ht s lv sb n) 59
def frOf (wd ht : Nat) (s : ByteArray) (lv : Int) : Fr := ⟨wd, ht, byteN s, lv⟩

set_option maxHeartbeats 1000000 in
set_option maxRecDepth 100000 in
theorem specLit_any (wd ht : Nat) (s : ByteArray) (lv : Int) (xb sb n i : Nat) (T : Nat → Bool) (w : World) (hn : n = s.size) (hi : i < n) (hL : LookAt w xb wd ht s lv sb n) (hS : SeenAt w sb n T) :
    Calls Try.prog 26 #[.pointer (some ⟨xb, 0, none⟩), .int .i64 i] w fun e w' => e = .returned (.bool (litP (frOf wd ht s lv) T i)) ∧ Below w.heap.size w w' := by
  subst hn
  have hi2 : (i : Int) < (s.size : Int) := by omega
  have c2 := hL.cell 2 _ rfl
  have c3 := hL.cell 3 _ rfl
  have c4 := hL.cell 4 _ rfl
  have d0 := hS.cell hi
  have r2 := cell_regrown c2
  have r3 := cell_regrown c3
  have r4 := cell_regrown c4
  have q0 := cell_regrown d0
  have hb := byteN_lt hi
  have HL : Hid (litP (frOf wd ht s lv) T i = (decide (lv < (s[i].toNat : Int)) && !T i)) := hide (by
    show (decide (lv < (byteN s i : Int)) && !T i) = _
    simp only [hb])
  clear c2 c3 c4 d0 hL hS hb
  generalize T i = t at *
  generalize litP (frOf wd ht s lv) T i = lit at *
  have hwr : wrap64 (s[i].toNat : Int) = (s[i].toNat : Int) := wrap_id (by omega) (by have := s[i].toNat_lt; omega)
  have HWR := hide hwr
  clear hwr
  by_cases hlt : lv < (s[i].toNat : Int)
  · have hd : decide (lv < wrap64 (s[i].toNat : Int)) = true := by rw [unhide HWR]; exact decide_eq_true hlt
    have HL2 : Hid (lit = !t) := hide (by rw [unhide HL, decide_eq_true hlt, Bool.true_and])
    clear HL
    go_enter Try.func26, Try.ntmps26
    go_wp2_with fail
    refine wp_region_quiet_below (by kernel_rfl) (by kernel_rfl) ?_
    repeat (go_big_quiet_step (fail))
    refine wpQuiet_nil ?_
    intro _ hw'
    obtain ⟨⟨dq, osq⟩, hw''⟩ := hw'
    subst hw''
    have hx := below_regrown w dq osq
    go_wp2_with fail
    go_ret
    exact ⟨by rw [unhide HL2]; rfl, hx⟩
  · have HL2 : Hid (lit = false) := hide (by rw [unhide HL, decide_eq_false hlt, Bool.false_and])
    have hd : decide (lv < wrap64 (s[i].toNat : Int)) = false := by rw [unhide HWR]; exact decide_eq_false hlt
    clear HL
    go_enter Try.func26, Try.ntmps26
    go_wp2_with fail
    refine wp_region_quiet_below (by kernel_rfl) (by kernel_rfl) ?_
    repeat (go_big_quiet_step (fail))
    refine wpQuiet_nil ?_
    intro _ hw'
    obtain ⟨⟨dq, osq⟩, hw''⟩ := hw'
    subst hw''
    have hx := below_regrown w dq osq
    go_wp2_with fail
    go_ret
    exact ⟨by rw [unhide HL2]; rfl, hx⟩
end Go.Proofs.Ytackifnnhjbgbaa
