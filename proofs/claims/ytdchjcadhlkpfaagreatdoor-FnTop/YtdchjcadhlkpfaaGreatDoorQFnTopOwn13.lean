/- Several texts in one: TurnT. -/
import Derived.Lib.SmallJoins
import Derived.Lib.AppendIntMem
import Derived.Deep.RegionWith
import Derived.Test.YtdchjcadhlkpfaaGreatDoorQFnTopOwn3
import Derived.Test.YtdchjcadhlkpfaaGreatDoorQFnTopOwn12
import Derived.Test.YtdchjcadhlkpfaaGreatDoorQFnTopOwn5
namespace Go.Proofs.YtdchjcadhlkpfaaGreatDoor
set_option linter.unusedVariables false
set_option linter.unusedSimpArgs false
set_option maxRecDepth 100000
set_option maxHeartbeats 8000000
section
open Go.RowKit Go.Joins
open Go.Sort (grow)
def aZ (n : Int) : ByteArray := ⟨(Lib.itoa n).toArray⟩
def aG (w : World) (b : Nat) (s0 s1 s2 s3 : ByteArray) : Prop := w.cell? ⟨b, 0, none⟩ = some (.string s0) ∧ w.cell? ⟨b, 1, none⟩ = some (.string s1) ∧ w.cell? ⟨b, 2, none⟩ = some (.string s2) ∧ w.cell? ⟨b, 3, none⟩ = some (.string s3)
theorem aG.lt {w : World} {b : Nat} {s0 s1 s2 s3 : ByteArray} (h : aG w b s0 s1 s2 s3) : b < w.heap.size := World.block_lt_of_cell? w _ h.1
theorem aG.kept {w w' : World} {b : Nat} {s0 s1 s2 s3 : ByteArray} (h : aG w b s0 s1 s2 s3) (hB : Below w.heap.size w w') : aG w' b s0 s1 s2 s3 := by
 have hb := h.lt
 obtain ⟨h0, h1, h2, h3⟩ := h
 exact ⟨by rw [hB.cell (p := ⟨b, 0, none⟩) hb]; exact h0, by rw [hB.cell (p := ⟨b, 1, none⟩) hb]; exact h1, by rw [hB.cell (p := ⟨b, 2, none⟩) hb]; exact h2, by rw [hB.cell (p := ⟨b, 3, none⟩) hb]; exact h3⟩
theorem qJ (w : World) (s0 s1 s2 s3 : ByteArray) (t : TypeId) : aG (w.alloc (.cells #[.string s0, .string s1, .string s2, .string s3] t)) w.heap.size s0 s1 s2 s3 := by
 refine ⟨?_, ?_, ?_, ?_⟩ <;> simp
theorem qQ (w : World) (s0 s1 s2 s3 : ByteArray) (t : TypeId) : ca (w.alloc (.cells #[.string s0, .string s1, .string s2, .string s3] t)) w.heap.size := by
 refine ⟨?_, ?_, ?_, ?_⟩ <;> simp
theorem ca.set {w : World} {b : Nat} (h : ca w b) (p : Addr) (v : Value) : ca (w.setCell p v) b := by
 obtain ⟨h0, h1, h2, h3⟩ := h
 refine ⟨?_, ?_, ?_, ?_⟩ <;> simp [go_sem, h0, h1, h2, h3]
def Tab (w : World) : Prop := Lib.TabIs Tryz.prog w "internal/strconv.uint64pow10" .u64 Lib.pow10Tab
theorem lT : Tryz.prog.globalNamed "internal/strconv.uint64pow10" = some 4 := by kernel_rfl
theorem Tab.kept {w w' : World} (h : Tab w) (hB : Below w.heap.size w w') : Tab w' := tab_stays lT h hB (Nat.le_refl _)
theorem kV (w : World) (k : Nat) (os : Array Obj) : RowKit.Below w.heap.size w (grow (w.drewN k) os) := Lib.below_grow _ w (Nat.le_refl _) k os
theorem fi (n : Int) (w : World) (h : -1000 ≤ n ∧ n ≤ 1000) (ht : Tab w) :
  Calls Tryz.prog 149 #[.int .i64 n, .int .i64 10] w fun e w' => e = .returned (.string (aZ n)) ∧ Below w.heap.size w w' :=
 (strconv_FormatInt_10 n (by omega) (by omega) w ht).mono fun e w' ⟨he, k, os, hw⟩ => ⟨he, by subst hw; exact kV _ _ _⟩
def oC (a b c d : Int) (w : World) (bk : Nat) : Nat → Prop
 | 0 => aG w bk ⟨#[]⟩ ⟨#[]⟩ ⟨#[]⟩ ⟨#[]⟩
 | 1 => aG w bk (aZ a) ⟨#[]⟩ ⟨#[]⟩ ⟨#[]⟩
 | 2 => aG w bk (aZ a) (aZ b) ⟨#[]⟩ ⟨#[]⟩
 | 3 => aG w bk (aZ a) (aZ b) (aZ c) ⟨#[]⟩
 | _ => aG w bk (aZ a) (aZ b) (aZ c) (aZ d)
theorem gV (a b c d : Int) (w : World) (ht : Tab w) :
  Calls Tryz.prog 122 #[.agg #[.int .i64 a, .int .i64 b, .int .i64 c, .int .i64 d]] w fun e w' => e = .returned (.string (eK a b c d)) ∧ Below w.heap.size w w' := by
 have i0 : ∀ w : World, (Instr.index 196 (.agg #[.int .i64 a, .int .i64 b, .int .i64 c, .int .i64 d]) (.int .i64 0)).run Tryz.prog w = .ok (.int .i64 a) w := fun _ => by kernel_rfl
 have i1 : ∀ w : World, (Instr.index 196 (.agg #[.int .i64 a, .int .i64 b, .int .i64 c, .int .i64 d]) (.int .i64 1)).run Tryz.prog w = .ok (.int .i64 b) w := fun _ => by kernel_rfl
 have i2 : ∀ w : World, (Instr.index 196 (.agg #[.int .i64 a, .int .i64 b, .int .i64 c, .int .i64 d]) (.int .i64 2)).run Tryz.prog w = .ok (.int .i64 c) w := fun _ => by kernel_rfl
 have i3 : ∀ w : World, (Instr.index 196 (.agg #[.int .i64 a, .int .i64 b, .int .i64 c, .int .i64 d]) (.int .i64 3)).run Tryz.prog w = .ok (.int .i64 d) w := fun _ => by kernel_rfl
 have HT := yz ht
 clear ht
 go_enter Tryz.func122, Tryz.ntmps122
 go_wp2_with fail
 refine (aK a b c d _).mono ?_
 rintro e w1 ⟨rfl, hx⟩
 have va : aC w1 w.heap.size a b c d := (aM w a b c d _).kept (by simp) hx
 have hB : Below w.heap.size w w1 := ak (an _ _) hx
 clear hx
 cases hr : az a b c d
 ·have HR : Hid (eK a b c d = ⟨#[]⟩) := yz (ud hr)
  go_wp2_with fail
  go_ret
  exact ⟨by rw [yy HR]; rfl, hB⟩
 ·have HR := yz (ue hr)
  have HJ := yz (qK (bU.1 hr).1)
  have HI := yz (bw.1 (nt (bU.1 hr).1 (show (5 : Int) ≤ 1000 by omega)))
  have va2 := va.alloc (.cells #[.string ⟨#[]⟩, .string ⟨#[]⟩, .string ⟨#[]⟩, .string ⟨#[]⟩] 195)
  have hwn := qJ w1 ⟨#[]⟩ ⟨#[]⟩ ⟨#[]⟩ ⟨#[]⟩ 195
  have hfn := qQ w1 ⟨#[]⟩ ⟨#[]⟩ ⟨#[]⟩ ⟨#[]⟩ 195
  have hB1 := hB.alloc hB.size (.cells #[.string ⟨#[]⟩, .string ⟨#[]⟩, .string ⟨#[]⟩, .string ⟨#[]⟩] 195)
  have hle : w.heap.size ≤ w1.heap.size := hB.size
  obtain ⟨c0, c1, c2, c3⟩ := va2
  clear va hr hB
  go_wp2_with fail
  refine (gB a b c d _).mono ?_
  rintro e w2 ⟨rfl, hx⟩
  replace hfn := hfn.kept hwn.lt hx
  replace hwn := hwn.kept hx
  replace hB1 := ak hB1 hx
  clear hx c0 c1 c2 c3
  generalize w1.heap.size = bk at hwn hfn hle ⊢
  have HW := yz hwn
  have HF := yz hfn
  have HB := yz hB1
  clear hwn hfn hB1
  go_wp2_with fail
  go_loopw [11] (fun i wr => ∃ k : Nat, k ≤ 4 ∧ i = .int .i64 k ∧ Hid (oC a b c d wr bk k) ∧ Hid (ca wr bk) ∧ Hid (Below w.heap.size w wr)) (fun i _ => 4 - (intOf i).toNat)
  case atStart => exact ⟨0, by omega, rfl, HW, HF, HB⟩
  case round =>
   clear HW HF HB
   obtain ⟨k, hk, rfl, HW, HF, HB⟩ := hrel
   have hk5 : k = 0 ∨ k = 1 ∨ k = 2 ∨ k = 3 ∨ k = 4 := by omega
   rcases hk5 with rfl | rfl | rfl | rfl | rfl
   ·go_wp2_with fail
    refine (fi a _ (yy HI).1 ((yy HT).kept (yy HB))).mono ?_
    rintro e w3 ⟨rfl, hx⟩
    have hw : aG w3 bk ⟨#[]⟩ ⟨#[]⟩ ⟨#[]⟩ ⟨#[]⟩ := (show aG _ bk ⟨#[]⟩ ⟨#[]⟩ ⟨#[]⟩ ⟨#[]⟩ from yy HW).kept hx
    have hf : ca w3 bk := (yy HF).kept (aG.lt (show aG _ bk ⟨#[]⟩ ⟨#[]⟩ ⟨#[]⟩ ⟨#[]⟩ from yy HW)) hx
    have hb : Below w.heap.size w w3 := ak (yy HB) hx
    clear hx HW HF HB
    have hw2 := hw
    have hf2 := hf
    obtain ⟨g0, g1, g2, g3⟩ := hw2
    obtain ⟨f0, f1, f2, f3⟩ := hf2
    have HB := yz hb
    have HH := yz hw
    have HF := yz hf
    clear hb hw hf
    go_wp2_with fail
    go_roundw
    case rel => exact ⟨1, by omega, rfl, yz (by simp [oC, aG, go_sem, g0, g1, g2, g3]), yz ((yy HF).set _ _), yz ((yy HB).setCell hle _)⟩
    case measure => simp [intOf]
   ·go_wp2_with fail
    refine (fi b _ (yy HI).2.1 ((yy HT).kept (yy HB))).mono ?_
    rintro e w3 ⟨rfl, hx⟩
    have hw : aG w3 bk (aZ a) ⟨#[]⟩ ⟨#[]⟩ ⟨#[]⟩ := (show aG _ bk (aZ a) ⟨#[]⟩ ⟨#[]⟩ ⟨#[]⟩ from yy HW).kept hx
    have hf : ca w3 bk := (yy HF).kept (aG.lt (show aG _ bk (aZ a) ⟨#[]⟩ ⟨#[]⟩ ⟨#[]⟩ from yy HW)) hx
    have hb : Below w.heap.size w w3 := ak (yy HB) hx
    clear hx HW HF HB
    have hw2 := hw
    have hf2 := hf
    obtain ⟨g0, g1, g2, g3⟩ := hw2
    obtain ⟨f0, f1, f2, f3⟩ := hf2
    have HB := yz hb
    have HH := yz hw
    have HF := yz hf
    clear hb hw hf
    go_wp2_with fail
    go_roundw
    case rel => exact ⟨2, by omega, rfl, yz (by simp [oC, aG, go_sem, g0, g1, g2, g3]), yz ((yy HF).set _ _), yz ((yy HB).setCell hle _)⟩
    case measure => simp [intOf]
   ·go_wp2_with fail
    refine (fi c _ (yy HI).2.2.1 ((yy HT).kept (yy HB))).mono ?_
    rintro e w3 ⟨rfl, hx⟩
    have hw : aG w3 bk (aZ a) (aZ b) ⟨#[]⟩ ⟨#[]⟩ := (show aG _ bk (aZ a) (aZ b) ⟨#[]⟩ ⟨#[]⟩ from yy HW).kept hx
    have hf : ca w3 bk := (yy HF).kept (aG.lt (show aG _ bk (aZ a) (aZ b) ⟨#[]⟩ ⟨#[]⟩ from yy HW)) hx
    have hb : Below w.heap.size w w3 := ak (yy HB) hx
    clear hx HW HF HB
    have hw2 := hw
    have hf2 := hf
    obtain ⟨g0, g1, g2, g3⟩ := hw2
    obtain ⟨f0, f1, f2, f3⟩ := hf2
    have HB := yz hb
    have HH := yz hw
    have HF := yz hf
    clear hb hw hf
    go_wp2_with fail
    go_roundw
    case rel => exact ⟨3, by omega, rfl, yz (by simp [oC, aG, go_sem, g0, g1, g2, g3]), yz ((yy HF).set _ _), yz ((yy HB).setCell hle _)⟩
    case measure => simp [intOf]
   ·go_wp2_with fail
    refine (fi d _ (yy HI).2.2.2 ((yy HT).kept (yy HB))).mono ?_
    rintro e w3 ⟨rfl, hx⟩
    have hw : aG w3 bk (aZ a) (aZ b) (aZ c) ⟨#[]⟩ := (show aG _ bk (aZ a) (aZ b) (aZ c) ⟨#[]⟩ from yy HW).kept hx
    have hf : ca w3 bk := (yy HF).kept (aG.lt (show aG _ bk (aZ a) (aZ b) (aZ c) ⟨#[]⟩ from yy HW)) hx
    have hb : Below w.heap.size w w3 := ak (yy HB) hx
    clear hx HW HF HB
    have hw2 := hw
    have hf2 := hf
    obtain ⟨g0, g1, g2, g3⟩ := hw2
    obtain ⟨f0, f1, f2, f3⟩ := hf2
    have HB := yz hb
    have HH := yz hw
    have HF := yz hf
    clear hb hw hf
    go_wp2_with fail
    go_roundw
    case rel => exact ⟨4, by omega, rfl, yz (by simp [oC, aG, go_sem, g0, g1, g2, g3]), yz ((yy HF).set _ _), yz ((yy HB).setCell hle _)⟩
    case measure => simp [intOf]
   ·have hw : aG wr bk (aZ a) (aZ b) (aZ c) (aZ d) := yy HW
    have hb := yy HB
    have HL : Hid ((Lib.join ([aZ a, aZ b, aZ c, aZ d].map (·.data.toList)) (⟨#[44]⟩ : ByteArray).data.toList) = gN a b c d) := yz (by rw [← yy HJ]; simp [aZ])
    have hcells : ∀ (j : Nat) x, [aZ a, aZ b, aZ c, aZ d][j]? = some x → wr.cell? ⟨bk, 0 + j, none⟩ = some (.string x) := by
     intro j x hx
     have hj : j < 4 := by
      rcases Nat.lt_or_ge j 4 with h | h
      ·exact h
      ·rw [List.getElem?_eq_none (by simpa using h)] at hx; cases hx
     match j, hj with
     | 0, _ => cases hx; exact hw.1
     | 1, _ => cases hx; exact hw.2.1
     | 2, _ => cases hx; exact hw.2.2.1
     | 3, _ => cases hx; exact hw.2.2.2
    have HC := yz hcells
    have HK := yz hw.lt
    have HB := yz hb
    clear hw hb HW HF hcells
    go_wp2_with fail
    refine (strings_Join bk 0 4 [aZ a, aZ b, aZ c, aZ d] ⟨#[44]⟩ wr (yy HC) (yy HK) (by simp) (by simp) (by rw [yy HL]; have := sR a b c d; omega)).mono ?_
    rw [yy HL]
    rintro e w3 ⟨rfl, hx⟩
    have HB2 := yz (ak (yy HB) hx)
    clear hx HC HK HL HB
    go_wp2_with fail
    go_ret
    exact ⟨by rw [yy HR]; rfl, yy HB2⟩
end
end Go.Proofs.YtdchjcadhlkpfaaGreatDoor
