/- Lists of impl.Vec: what eqVecS, markVecS and heldVecS do. -/
import Derived.Test.YtmacbegchdjdnaaRowV
import Derived.Lib.QuietBelow
import Derived.Deep.QuietTactic
import Derived.BigQuiet
namespace Go.Proofs.Ytmacbegchdjdnaa
open Go.RowKit Go.Sort
set_option linter.unusedVariables false
def valVecS (fI : Nat → Int) (fB : Nat → Bool) (j : Nat) : Value := .int .i64 (fI j)
def markVecSV (j : Nat) : Value := valVecS (fun j => 1 + (j : Int)) (fun j => decide ((1 + (j : Int)) % 3 = 0)) j
theorem valVecS_0 (fI : Nat → Int) (fB : Nat → Bool) (q : Nat) : valVecS fI fB (q * 3) = .int .i64 (fI (q * 3)) := by unfold valVecS; rfl
theorem valVecS_1 (fI : Nat → Int) (fB : Nat → Bool) (q : Nat) : valVecS fI fB (q * 3 + 1) = .int .i64 (fI (q * 3 + 1)) := by unfold valVecS; rfl
theorem valVecS_2 (fI : Nat → Int) (fB : Nat → Bool) (q : Nat) : valVecS fI fB (q * 3 + 2) = .int .i64 (fI (q * 3 + 2)) := by unfold valVecS; rfl
theorem markVecSV_0 (q : Nat) : markVecSV (q * 3) = .int .i64 (1 + (q : Int) * 3) := by
  unfold markVecSV
  rw [valVecS_0]
  have e : (1 + ((q * 3 : Nat) : Int)) = 1 + (q : Int) * 3 := by omega
  simp only [e]
theorem markVecSV_1 (q : Nat) : markVecSV (q * 3 + 1) = .int .i64 (1 + (q : Int) * 3 + 1) := by
  unfold markVecSV
  rw [valVecS_1]
  have e : (1 + ((q * 3 + 1 : Nat) : Int)) = 1 + (q : Int) * 3 + 1 := by omega
  simp only [e]
theorem markVecSV_2 (q : Nat) : markVecSV (q * 3 + 2) = .int .i64 (1 + (q : Int) * 3 + 1 + 1) := by
  unfold markVecSV
  rw [valVecS_2]
  have e : (1 + ((q * 3 + 2 : Nat) : Int)) = 1 + (q : Int) * 3 + 1 + 1 := by omega
  simp only [e]
end Go.Proofs.Ytmacbegchdjdnaa
