/- GetNum: the program's function, told by 'scan' (for a seat that does not reach the specification's one). -/
import Derived.Test.YtcoibamfgcdbnaaDoorReadNum
import Derived.Test.YtcoibamfgcdbnaaDoorAs
namespace Go.Proofs.YtcoibamfgcdbnaaDoor
open Go.RowKit

/-- the one cell of package errors' errorType, as the row's list says it -/
def errLaid (w : World) : Prop := w.cell? ⟨0, 0, none⟩ = some (.iface 72 (.agg #[.pointer (some ⟨1, 42, none⟩)]))
theorem errLaid_lt {w : World} (h : errLaid w) : 0 < w.heap.size := by
  rcases Nat.eq_zero_or_pos w.heap.size with h0 | h1
  · simp [errLaid, World.cell?, h0] at h
  · exact h1
theorem errLaid_below {w w' : World} (h : errLaid w) (hb : Below w.heap.size w w') : errLaid w' := by
  unfold errLaid
  rw [hb.cell (p := ⟨0, 0, none⟩) (errLaid_lt h)]
  exact h
theorem errLaid_alloc {w : World} (h : errLaid w) (o : Obj) : errLaid (w.alloc o) := errLaid_below h ((Below.refl _ _).alloc (Nat.le_refl _) _)

set_option maxHeartbeats 400000 in
theorem readNum_neg (s : ByteArray) (p : Int) (w : World) (h : p < 0) :
    Calls Tryd.prog 16 #[.string s, .int .i64 p] w fun e w' => e = .returned (.tuple #[.int .i64 0, .int .i64 0, .iface 46 (.agg #[.int .i64 1])]) ∧ w' = w := by
  go_enter Tryd.func16, Tryd.ntmps16
  go_wp2
  go_step3
  go_wp2
  rw [Exit.noGoto_ret]
  go_ret3
  exact ⟨rfl, rfl⟩

theorem belowA {B : Nat} {a w : World} (h : Below B a w) (hB : B ≤ a.heap.size) (o : Obj) : Below B a (w.alloc o) := h.alloc (Nat.le_trans hB h.size) o

/-- readNum by what it makes, at every place -/
def readRes (s : ByteArray) (p : Int) : Except Int (Nat × Nat) := if p < 0 then .error 1 else scan s p.toNat 10 0 0
theorem readNum_all (s : ByteArray) (p : Int) (w : World) (hs : s.size ≤ 8000) (h1 : p ≤ 9223372036854775807) :
    Calls Tryd.prog 16 #[.string s, .int .i64 p] w fun e w' => e = .returned (numRes (readRes s p)) ∧ w' = w := by
  by_cases h : p < 0
  · rw [readRes, if_pos h]; exact readNum_neg s p w h
  · obtain ⟨n, rfl⟩ : ∃ n : Nat, p = (n : Int) := ⟨p.toNat, by omega⟩
    rw [readRes, if_neg h, Int.toNat_natCast]
    exact readNum_any s n w hs h1

/-- what GetNum answers -/
def outOf : Except Int (Nat × Nat) → Value
  | .error c => .agg #[.int .i64 0, .int .i64 0, .int .i64 c]
  | .ok x => .agg #[.int .i64 (unf x.1), .int .i64 (x.2 : Int), .int .i64 0]
def getRes (s : ByteArray) (p : Int) : Value := if 8000 < s.size then .agg #[.int .i64 0, .int .i64 0, .int .i64 2] else outOf (readRes s p)

set_option maxHeartbeats 1000000 in
theorem implGetNum_any (s : ByteArray) (p : Int) (w : World) (hs : s.size ≤ 1048576) (h1 : p ≤ 9223372036854775807) (hg : errLaid w) :
    Calls Tryd.prog 7 #[.string s, .int .i64 p] w fun e w' => e = .returned (getRes s p) ∧ Below w.heap.size w w' := by
  by_cases h8 : 8000 < s.size
  · rw [getRes, if_pos h8]
    clear hg
    go_enter Tryd.func7, Tryd.ntmps7
    go_wp2
    exact bodyPost_ret (v := .agg #[.int .i64 0, .int .i64 0, .int .i64 2]) (by simp [results, Tryd.results7, go_sem]) rfl ⟨rfl, (Below.refl _ _).alloc (Nat.le_refl _) _⟩
  · rw [getRes, if_neg h8]
    have h8' : s.size ≤ 8000 := by omega
    have HG := hide hg
    have hz := errLaid_lt hg
    clear hg
    cases hr : readRes s p with
    | error c =>
      have HC := hide (fun w => (by have := readNum_all s p w h8' h1; rw [hr] at this; exact this : Calls Tryd.prog 16 #[.string s, .int .i64 p] w fun e w' => e = .returned (.tuple #[.int .i64 0, .int .i64 0, .iface 46 (.agg #[.int .i64 c])]) ∧ w' = w))
      clear hr
      go_enter Tryd.func7, Tryd.ntmps7
      go_wp2_with fail
      refine (unhide HC _).mono ?_
      rintro e w' ⟨rfl, rfl⟩
      go_wp2_with fail
      refine (as_hit c (w.heap.size + 1) 0 (.int .i64 0) _ (errLaid_alloc (errLaid_alloc (unhide HG) _) _) (by simp) (by simp)).mono ?_
      rintro e w' ⟨rfl, rfl⟩
      go_wp2
      exact bodyPost_ret (v := .agg #[.int .i64 0, .int .i64 0, .int .i64 c]) (by simp [results, Tryd.results7, go_sem]) rfl ⟨rfl, belowA (belowA (belowA (belowA (belowA (belowA (Below.refl _ _) (Nat.le_refl _) _) (Nat.le_refl _) _) (Nat.le_refl _) _) (Nat.le_refl _) _) (Nat.le_refl _) _) (Nat.le_refl _) _⟩
    | ok x =>
      have HC := hide (fun w => (by have := readNum_all s p w h8' h1; rw [hr] at this; exact this : Calls Tryd.prog 16 #[.string s, .int .i64 p] w fun e w' => e = .returned (.tuple #[.int .i64 (unf x.1), .int .i64 (x.2 : Int), .nilIface]) ∧ w' = w))
      clear hr
      go_enter Tryd.func7, Tryd.ntmps7
      go_wp2_with fail
      refine (unhide HC _).mono ?_
      rintro e w' ⟨rfl, rfl⟩
      go_wp2_with fail
      refine (as_nil _ _).mono ?_
      rintro e w' ⟨rfl, rfl⟩
      go_wp2
      exact bodyPost_ret (v := .agg #[.int .i64 (unf x.1), .int .i64 (x.2 : Int), .int .i64 0]) (by simp [results, Tryd.results7, go_sem]) rfl ⟨rfl, ((Below.refl _ _).alloc (Nat.le_refl _) _).alloc (by simp) _⟩

theorem getRes_form (s : ByteArray) (p : Int) : ∃ a b c : Int, getRes s p = .agg #[.int .i64 a, .int .i64 b, .int .i64 c] := by
  unfold getRes
  split
  · exact ⟨_, _, _, rfl⟩
  · cases readRes s p with
    | error c => exact ⟨_, _, _, rfl⟩
    | ok x => exact ⟨_, _, _, rfl⟩
end Go.Proofs.YtcoibamfgcdbnaaDoor
