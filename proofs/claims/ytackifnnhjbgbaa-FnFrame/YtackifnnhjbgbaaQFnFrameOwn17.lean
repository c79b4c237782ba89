/- Several texts in one: StG. -/
import Derived.Test.YtackifnnhjbgbaaQFnFrameOwn16
namespace Go.Proofs.Ytackifnnhjbgbaa
set_option linter.unusedVariables false
set_option linter.unusedSimpArgs false
set_option maxRecDepth 100000
set_option maxHeartbeats 8000000
section
open Go.RowKit
def cX (x : Nat) : Nat := if x = 0 then 0 else if x < 2 then 1 else if x < 4 then 2 else if x < 8 then 3 else if x < 16 then 4 else if x < 32 then 5 else if x < 64 then 6 else if x < 128 then 7 else 8
abbrev hH : ByteArray := ⟨#[0, 1, 2, 2, 3, 3, 3, 3, 4, 4, 4, 4, 4, 4, 4, 4, 5, 5, 5, 5, 5, 5, 5, 5, 5, 5, 5, 5, 5, 5, 5, 5, 6, 6, 6, 6, 6, 6, 6, 6, 6, 6, 6, 6, 6, 6, 6, 6, 6, 6, 6, 6, 6, 6, 6, 6, 6, 6, 6, 6, 6, 6, 6, 6, 7, 7, 7, 7, 7, 7, 7, 7, 7, 7, 7, 7, 7, 7, 7, 7, 7, 7, 7, 7, 7, 7, 7, 7, 7, 7, 7, 7, 7, 7, 7, 7, 7, 7, 7, 7, 7, 7, 7, 7, 7, 7, 7, 7, 7, 7, 7, 7, 7, 7, 7, 7, 7, 7, 7, 7, 7, 7, 7, 7, 7, 7, 7, 7, 8, 8, 8, 8, 8, 8, 8, 8, 8, 8, 8, 8, 8, 8, 8, 8, 8, 8, 8, 8, 8, 8, 8, 8, 8, 8, 8, 8, 8, 8, 8, 8, 8, 8, 8, 8, 8, 8, 8, 8, 8, 8, 8, 8, 8, 8, 8, 8, 8, 8, 8, 8, 8, 8, 8, 8, 8, 8, 8, 8, 8, 8, 8, 8, 8, 8, 8, 8, 8, 8, 8, 8, 8, 8, 8, 8, 8, 8, 8, 8, 8, 8, 8, 8, 8, 8, 8, 8, 8, 8, 8, 8, 8, 8, 8, 8, 8, 8, 8, 8, 8, 8, 8, 8, 8, 8, 8, 8, 8, 8, 8, 8, 8, 8, 8, 8, 8, 8, 8, 8, 8, 8, 8, 8, 8, 8, 8, 8]⟩
theorem jg : ∀ y : Fin 256, hH.data.getD y.1 0 = UInt8.ofNat (cX y.1) := by decide +kernel
theorem fS {x : Nat} (h : x < 256) : cX x ≤ 8 ∧ x < 2 ^ cX x ∧ (0 < x → 2 ^ cX x ≤ 2 * x) := by
  unfold cX
  repeat' split
  all_goals (refine ⟨by omega, ?_, ?_⟩ <;> simp <;> omega)
theorem jf {x : Nat} (h : x < 256) (h2 : x < hH.size) : wrap64 (wrap64 ((hH[x]'h2).toNat : Int)) = ((cX x : Nat) : Int) := by
  have e := jg ⟨x, h⟩
  dsimp only at e
  have e2 : hH[x]'h2 = hH.data.getD x 0 := by
    rw [Array.getD_eq_getD_getElem?, Array.getElem?_eq_getElem (show x < hH.data.size from h2)]
    rfl
  have hb := (fS h).1
  rw [e2, e, UInt8.toNat_ofNat', Nat.mod_eq_of_lt (by omega), show wrap64 ((cX x : Nat) : Int) = ((cX x : Nat) : Int) from aG (by omega) (by omega)]
  exact aG (by omega) (by omega)
theorem hG (x : Nat) (w : World) (hx : x < 256) :
    Calls Try.prog 47 #[.int .u64 x] w fun e w' => ∃ k : Nat, e = .returned (.int .i64 k) ∧ k ≤ 8 ∧ x < 2 ^ k ∧ (0 < x → 2 ^ k ≤ 2 * x) ∧ Below w.heap.size w w' := by
  have h1 : ¬ (4294967296 : Int) ≤ (x : Int) := by omega
  have h2 : ¬ (65536 : Int) ≤ (x : Int) := by omega
  have h3 : ¬ (256 : Int) ≤ (x : Int) := by omega
  have h4 : (x : Int) < 256 := by omega
  have h5 : (0 : Int) ≤ (x : Int) := by omega
  have hw : IntKind.u8.wrap (x : Int) = (x : Int) := by show (x : Int) % 256 = (x : Int); omega
  go_enter Try.func47, Try.ntmps47
  have HX := yz hx
  go_wp2_with fail
  go_ret
  obtain ⟨q1, q2, q3⟩ := fS (yx HX)
  exact ⟨cX x, congrArg (fun z => Ending.returned (Value.int .i64 z)) (jf (yx HX) _), q1, q2, q3, Below.refl _ _⟩
theorem gQ (x : Nat) (w : World) (hx : x < 256) :
    Calls Try.prog 30 #[.int .u64 x] w fun e w' => ∃ k : Nat, e = .returned (.int .i64 k) ∧ k ≤ 8 ∧ x < 2 ^ k ∧ (0 < x → 2 ^ k ≤ 2 * x) ∧ Below w.heap.size w w' := by
  go_enter Try.func30, Try.ntmps30
  go_wp2_with fail
  refine (hG x _ hx).mono ?_
  rintro e W1 ⟨k, rfl, h1, h2, h3, hx⟩
  go_wp2_with fail
  go_ret
  exact ⟨k, rfl, h1, h2, h3, hx⟩
theorem iS (x : Nat) (w : World) (hx : x < 256) (h0 : 0 < x) :
    Calls Try.prog 51 #[.int .i64 x] w fun e w' => ∃ k : Nat, e = .returned (.int .u64 ((2 ^ k : Nat) : Int)) ∧ k ≤ 8 ∧ 2 ^ k ≤ 2 * x ∧ Below w.heap.size w w' := by
  go_enter Try.func51, Try.ntmps51
  go_wp2_with fail
  refine (gQ x _ hx).mono ?_
  rintro e W1 ⟨k, rfl, h1, h2, h3, hx2⟩
  have h4 := h3 h0
  clear h3 h2
  rcases (by omega : k = 0 ∨ k = 1 ∨ k = 2 ∨ k = 3 ∨ k = 4 ∨ k = 5 ∨ k = 6 ∨ k = 7 ∨ k = 8) with rfl | rfl | rfl | rfl | rfl | rfl | rfl | rfl | rfl <;>
    (go_wp2_with fail
     go_ret
     exact ⟨_, by first | rfl | decide, h1, h4, hx2⟩)
theorem iz {w w1 : World} {g : Nat} (h : w.grownBy w1 (some g)) : w.grownBy w1.drew (some g) := ⟨h.os, h.tape, h.output, h.size, h.block⟩
theorem jA (sb : Nat) (x : Int) (w : World) (hB : Blk w sb [.int .u64 x] 91) :
    Calls Try.prog 52 #[.pointer (some ⟨sb, 0, none⟩)] w fun e w' => ∃ y : Int, e = .returned (.int .u64 y) ∧ Blk w' sb [.int .u64 y] 91 ∧ w.grownBy w' (some sb) := by
  have c0 := hB.cell 0 _ rfl
  have f0 := hB.free 0
  have HB := yz hB
  have HG : Hid (w.grownBy w (some sb)) := yz (fQ _ _)
  clear hB
  go_enter Try.func52, Try.ntmps52
  go_wp2_with fail
  go_region
  generalize bits BinOp.xor IntKind.u64 x (IntKind.u64.wrap (x * 8192)) = y1
  have HB1 : Hid (Blk (w.setCell ⟨sb, 0, none⟩ (.int .u64 y1)).drew sb [.int .u64 y1] 91) := yz ((yx HB).set 0 (.int .u64 y1)).drewn
  have HG1 : Hid (w.grownBy (w.setCell ⟨sb, 0, none⟩ (.int .u64 y1)).drew (some sb)) := yz (iz (fu (yx HG) 0 (.int .u64 y1)))
  generalize (w.setCell ⟨sb, 0, none⟩ (.int .u64 y1)).drew = W1 at *
  clear HB HG c0 f0
  have c0 := (yx HB1).cell 0 _ rfl
  have f0 := (yx HB1).free 0
  go_wp2_with fail
  go_region
  generalize bits BinOp.xor IntKind.u64 y1 (y1 / 128) = y2
  have HB2 : Hid (Blk (W1.setCell ⟨sb, 0, none⟩ (.int .u64 y2)).drew sb [.int .u64 y2] 91) := yz ((yx HB1).set 0 (.int .u64 y2)).drewn
  have HG2 : Hid (w.grownBy (W1.setCell ⟨sb, 0, none⟩ (.int .u64 y2)).drew (some sb)) := yz (iz (fu (yx HG1) 0 (.int .u64 y2)))
  generalize (W1.setCell ⟨sb, 0, none⟩ (.int .u64 y2)).drew = W2 at *
  clear HB1 HG1 c0 f0
  have c0 := (yx HB2).cell 0 _ rfl
  have f0 := (yx HB2).free 0
  go_wp2_with fail
  go_region
  generalize bits BinOp.xor IntKind.u64 y2 (IntKind.u64.wrap (y2 * 131072)) = y3
  have HB3 : Hid (Blk (W2.setCell ⟨sb, 0, none⟩ (.int .u64 y3)).drew sb [.int .u64 y3] 91) := yz ((yx HB2).set 0 (.int .u64 y3)).drewn
  have HG3 : Hid (w.grownBy (W2.setCell ⟨sb, 0, none⟩ (.int .u64 y3)).drew (some sb)) := yz (iz (fu (yx HG2) 0 (.int .u64 y3)))
  generalize (W2.setCell ⟨sb, 0, none⟩ (.int .u64 y3)).drew = W3 at *
  clear HB2 HG2 c0 f0
  have c0 := (yx HB3).cell 0 _ rfl
  have f0 := (yx HB3).free 0
  go_wp2_with fail
  go_ret
  exact ⟨y3, rfl, yx HB3, yx HG3⟩
end
end Go.Proofs.Ytackifnnhjbgbaa
