/- Several texts in one: TurnMath2, TurnA, TurnB, TurnC, TurnF, SeenA, SkyI, PairA, Place, PairB, PairC, PairD, MarkS, ObM. -/
import Derived.Lib.QuietBelow
import Derived.Deep.QuietTactic
import Derived.BigQuiet
import Derived.BigRegion
import Derived.Deep.RegionHeld
import Derived.Deep.DeepCutAuto
import Derived.OwnWalk
import Derived.Laws.OwnMore
import Derived.Test.YtlleafjdgblhcaaGreatDoorQDeskRunOwn2
import Derived.Test.YtlleafjdgblhcaaGreatDoorQDeskRunOwn1
import Derived.Test.YtlleafjdgblhcaaGreatDoorQDeskRunOwn3
namespace Go.Proofs.YtlleafjdgblhcaaGreatDoor
set_option linter.unusedVariables false
set_option linter.unusedSimpArgs false
set_option maxRecDepth 100000
set_option maxHeartbeats 8000000
section
open Go.RowKit
theorem DQ {a b c d x y z : Int} (ht : inT 5 a b c d = true) (hv : aK 1800 x y z = true) :
  wrap64 (wrap64 (wrap64 (wrap64 (wrap64 (wrap64 (wrap64 (a * a) + wrap64 (b * b)) - wrap64 (c * c)) - wrap64 (d * d)) * x) + wrap64 (wrap64 (2 * wrap64 (wrap64 (b * c) - wrap64 (a * d))) * y)) + wrap64 (wrap64 (2 * wrap64 (wrap64 (b * d) + wrap64 (a * c))) * z)) = apX a b c d x y z := by
 obtain ⟨ha, hb, hc, hd⟩ := bR.1 ht
 have h1 := bJ ha ha
 have h2 := bJ hb hb
 have h3 := bJ hc hc
 have h4 := bJ hd hd
 have h5 := bJ hb hc
 have h6 := bJ ha hd
 have h7 := bJ hb hd
 have h8 := bJ ha hc
 rw [aq (n := a * a) (by omega) (by omega), aq (n := b * b) (by omega) (by omega), aq (n := c * c) (by omega) (by omega), aq (n := d * d) (by omega) (by omega), aq (n := b * c) (by omega) (by omega), aq (n := a * d) (by omega) (by omega), aq (n := b * d) (by omega) (by omega), aq (n := a * c) (by omega) (by omega),
  aq (n := a * a + b * b) (by omega) (by omega), aq (n := a * a + b * b - c * c) (by omega) (by omega), aq (n := a * a + b * b - c * c - d * d) (by omega) (by omega), aq (n := b * c - a * d) (by omega) (by omega), aq (n := b * d + a * c) (by omega) (by omega), aq (n := 2 * (b * c - a * d)) (by omega) (by omega), aq (n := 2 * (b * d + a * c)) (by omega) (by omega)]
 exact dx (A := 100) (B := 1800) (aP.2 ⟨by omega, by omega, by omega⟩) hv (by omega)
theorem DD {a b c d x y z : Int} (ht : inT 5 a b c d = true) (hv : aK 1800 x y z = true) :
  wrap64 (wrap64 (wrap64 (wrap64 (2 * wrap64 (wrap64 (b * c) + wrap64 (a * d))) * x) + wrap64 (wrap64 (wrap64 (wrap64 (wrap64 (a * a) - wrap64 (b * b)) + wrap64 (c * c)) - wrap64 (d * d)) * y)) + wrap64 (wrap64 (2 * wrap64 (wrap64 (c * d) - wrap64 (a * b))) * z)) = apY a b c d x y z := by
 obtain ⟨ha, hb, hc, hd⟩ := bR.1 ht
 have h1 := bJ ha ha
 have h2 := bJ hb hb
 have h3 := bJ hc hc
 have h4 := bJ hd hd
 have h5 := bJ hb hc
 have h6 := bJ ha hd
 have h7 := bJ hc hd
 have h8 := bJ ha hb
 rw [aq (n := a * a) (by omega) (by omega), aq (n := b * b) (by omega) (by omega), aq (n := c * c) (by omega) (by omega), aq (n := d * d) (by omega) (by omega), aq (n := b * c) (by omega) (by omega), aq (n := a * d) (by omega) (by omega), aq (n := c * d) (by omega) (by omega), aq (n := a * b) (by omega) (by omega),
  aq (n := a * a - b * b) (by omega) (by omega), aq (n := a * a - b * b + c * c) (by omega) (by omega), aq (n := a * a - b * b + c * c - d * d) (by omega) (by omega), aq (n := b * c + a * d) (by omega) (by omega), aq (n := c * d - a * b) (by omega) (by omega), aq (n := 2 * (b * c + a * d)) (by omega) (by omega), aq (n := 2 * (c * d - a * b)) (by omega) (by omega)]
 exact dx (A := 100) (B := 1800) (aP.2 ⟨by omega, by omega, by omega⟩) hv (by omega)
theorem DP {a b c d x y z : Int} (ht : inT 5 a b c d = true) (hv : aK 1800 x y z = true) :
  wrap64 (wrap64 (wrap64 (wrap64 (2 * wrap64 (wrap64 (b * d) - wrap64 (a * c))) * x) + wrap64 (wrap64 (2 * wrap64 (wrap64 (c * d) + wrap64 (a * b))) * y)) + wrap64 (wrap64 (wrap64 (wrap64 (wrap64 (a * a) - wrap64 (b * b)) - wrap64 (c * c)) + wrap64 (d * d)) * z)) = apZ a b c d x y z := by
 obtain ⟨ha, hb, hc, hd⟩ := bR.1 ht
 have h1 := bJ ha ha
 have h2 := bJ hb hb
 have h3 := bJ hc hc
 have h4 := bJ hd hd
 have h5 := bJ hb hd
 have h6 := bJ ha hc
 have h7 := bJ hc hd
 have h8 := bJ ha hb
 rw [aq (n := a * a) (by omega) (by omega), aq (n := b * b) (by omega) (by omega), aq (n := c * c) (by omega) (by omega), aq (n := d * d) (by omega) (by omega), aq (n := b * d) (by omega) (by omega), aq (n := a * c) (by omega) (by omega), aq (n := c * d) (by omega) (by omega), aq (n := a * b) (by omega) (by omega),
  aq (n := a * a - b * b) (by omega) (by omega), aq (n := a * a - b * b - c * c) (by omega) (by omega), aq (n := a * a - b * b - c * c + d * d) (by omega) (by omega), aq (n := b * d - a * c) (by omega) (by omega), aq (n := c * d + a * b) (by omega) (by omega), aq (n := 2 * (b * d - a * c)) (by omega) (by omega), aq (n := 2 * (c * d + a * b)) (by omega) (by omega)]
 exact dx (A := 100) (B := 1800) (aP.2 ⟨by omega, by omega, by omega⟩) hv (by omega)
theorem DI {s1 s2 s3 s4 t1 t2 t3 t4 : Int} (hs : inT 5 s1 s2 s3 s4 = true) (ht : inT 5 t1 t2 t3 t4 = true) :
  wrap64 (wrap64 (wrap64 (wrap64 (s1 * t1) - wrap64 (s2 * t2)) - wrap64 (s3 * t3)) - wrap64 (s4 * t4)) = coA s1 s2 s3 s4 t1 t2 t3 t4 ∧ -100 ≤ coA s1 s2 s3 s4 t1 t2 t3 t4 ∧ coA s1 s2 s3 s4 t1 t2 t3 t4 ≤ 100 := by
 obtain ⟨ha, hb, hc, hd⟩ := bR.1 hs
 obtain ⟨ka, kb, kc, kd⟩ := bR.1 ht
 have h1 := bJ ha ka
 have h2 := bJ hb kb
 have h3 := bJ hc kc
 have h4 := bJ hd kd
 unfold coA
 rw [aq (n := s1 * t1) (by omega) (by omega), aq (n := s2 * t2) (by omega) (by omega), aq (n := s3 * t3) (by omega) (by omega), aq (n := s4 * t4) (by omega) (by omega), aq (n := s1 * t1 - s2 * t2) (by omega) (by omega), aq (n := s1 * t1 - s2 * t2 - s3 * t3) (by omega) (by omega), aq (by omega) (by omega)]
 omega
theorem DF {s1 s2 s3 s4 t1 t2 t3 t4 : Int} (hs : inT 5 s1 s2 s3 s4 = true) (ht : inT 5 t1 t2 t3 t4 = true) :
  wrap64 (wrap64 (wrap64 (wrap64 (s1 * t2) + wrap64 (s2 * t1)) + wrap64 (s3 * t4)) - wrap64 (s4 * t3)) = coB s1 s2 s3 s4 t1 t2 t3 t4 ∧ -100 ≤ coB s1 s2 s3 s4 t1 t2 t3 t4 ∧ coB s1 s2 s3 s4 t1 t2 t3 t4 ≤ 100 := by
 obtain ⟨ha, hb, hc, hd⟩ := bR.1 hs
 obtain ⟨ka, kb, kc, kd⟩ := bR.1 ht
 have h1 := bJ ha kb
 have h2 := bJ hb ka
 have h3 := bJ hc kd
 have h4 := bJ hd kc
 unfold coB
 rw [aq (n := s1 * t2) (by omega) (by omega), aq (n := s2 * t1) (by omega) (by omega), aq (n := s3 * t4) (by omega) (by omega), aq (n := s4 * t3) (by omega) (by omega), aq (n := s1 * t2 + s2 * t1) (by omega) (by omega), aq (n := s1 * t2 + s2 * t1 + s3 * t4) (by omega) (by omega), aq (by omega) (by omega)]
 omega
theorem DK {s1 s2 s3 s4 t1 t2 t3 t4 : Int} (hs : inT 5 s1 s2 s3 s4 = true) (ht : inT 5 t1 t2 t3 t4 = true) :
  wrap64 (wrap64 (wrap64 (wrap64 (s1 * t3) - wrap64 (s2 * t4)) + wrap64 (s3 * t1)) + wrap64 (s4 * t2)) = coC s1 s2 s3 s4 t1 t2 t3 t4 ∧ -100 ≤ coC s1 s2 s3 s4 t1 t2 t3 t4 ∧ coC s1 s2 s3 s4 t1 t2 t3 t4 ≤ 100 := by
 obtain ⟨ha, hb, hc, hd⟩ := bR.1 hs
 obtain ⟨ka, kb, kc, kd⟩ := bR.1 ht
 have h1 := bJ ha kc
 have h2 := bJ hb kd
 have h3 := bJ hc ka
 have h4 := bJ hd kb
 unfold coC
 rw [aq (n := s1 * t3) (by omega) (by omega), aq (n := s2 * t4) (by omega) (by omega), aq (n := s3 * t1) (by omega) (by omega), aq (n := s4 * t2) (by omega) (by omega), aq (n := s1 * t3 - s2 * t4) (by omega) (by omega), aq (n := s1 * t3 - s2 * t4 + s3 * t1) (by omega) (by omega), aq (by omega) (by omega)]
 omega
theorem DG {s1 s2 s3 s4 t1 t2 t3 t4 : Int} (hs : inT 5 s1 s2 s3 s4 = true) (ht : inT 5 t1 t2 t3 t4 = true) :
  wrap64 (wrap64 (wrap64 (wrap64 (s1 * t4) + wrap64 (s2 * t3)) - wrap64 (s3 * t2)) + wrap64 (s4 * t1)) = coD s1 s2 s3 s4 t1 t2 t3 t4 ∧ -100 ≤ coD s1 s2 s3 s4 t1 t2 t3 t4 ∧ coD s1 s2 s3 s4 t1 t2 t3 t4 ≤ 100 := by
 obtain ⟨ha, hb, hc, hd⟩ := bR.1 hs
 obtain ⟨ka, kb, kc, kd⟩ := bR.1 ht
 have h1 := bJ ha kd
 have h2 := bJ hb kc
 have h3 := bJ hc kb
 have h4 := bJ hd ka
 unfold coD
 rw [aq (n := s1 * t4) (by omega) (by omega), aq (n := s2 * t3) (by omega) (by omega), aq (n := s3 * t2) (by omega) (by omega), aq (n := s4 * t1) (by omega) (by omega), aq (n := s1 * t4 + s2 * t3) (by omega) (by omega), aq (n := s1 * t4 + s2 * t3 - s3 * t2) (by omega) (by omega), aq (by omega) (by omega)]
 omega
def apR (a b c d x y z : Int) : Bool := aA a b c d && cz x y z
def apI (r : Bool) (v : Int) : Int := if r then v else 0
def coR (s1 s2 s3 s4 t1 t2 t3 t4 : Int) : Bool := aA s1 s2 s3 s4 && aA t1 t2 t3 t4
def coK (s1 s2 s3 s4 t1 t2 t3 t4 : Int) : Int :=
 if coR s1 s2 s3 s4 t1 t2 t3 t4 then ofC (coA s1 s2 s3 s4 t1 t2 t3 t4) (coB s1 s2 s3 s4 t1 t2 t3 t4) (coC s1 s2 s3 s4 t1 t2 t3 t4) (coD s1 s2 s3 s4 t1 t2 t3 t4) else 1
def coP (s1 s2 s3 s4 t1 t2 t3 t4 v : Int) : Int :=
 if coR s1 s2 s3 s4 t1 t2 t3 t4 then ofP (coA s1 s2 s3 s4 t1 t2 t3 t4) (coB s1 s2 s3 s4 t1 t2 t3 t4) (coC s1 s2 s3 s4 t1 t2 t3 t4) (coD s1 s2 s3 s4 t1 t2 t3 t4) v else 0
theorem BY {x m : Int} (hm : 0 ≤ m) (h : x * x ≤ m * m) : -m ≤ x ∧ x ≤ m := by
 have h1 : x.natAbs * x.natAbs ≤ m.natAbs * m.natAbs := by
  have e1 := Int.natAbs_mul_self' x
  have e2 := Int.natAbs_mul_self' m
  omega
 have := Nat.mul_self_le_mul_self_iff.1 h1
 omega
theorem wC {a b c d x y z D M : Int} (ht : aA a b c d = true) (hD : dot x y z x y z ≤ D) (hM : 0 ≤ M) (h : 10000 * D ≤ M * M) : aK M (apX a b c d x y z) (apY a b c d x y z) (apZ a b c d x y z) = true := by
 have hn := EF (aZ.1 ht).1
 have hp := xA (kT ht)
 have hn2 := bJ (A := 100) (B := 100) (a := nT a b c d) (b := nT a b c d) (by omega) (by omega)
 have hd := pQ a b c d x y z x y z
 have h0 : 0 ≤ dot x y z x y z := by have h1 := sqn x; have h2 := sqn y; have h3 := sqn z; unfold dot; omega
 have hm := bJ (A := 10000) (B := D) (a := nT a b c d * nT a b c d) (b := dot x y z x y z) (by omega) (by omega)
 have s1 := sqn (apX a b c d x y z)
 have s2 := sqn (apY a b c d x y z)
 have s3 := sqn (apZ a b c d x y z)
 have hdd : dot (apX a b c d x y z) (apY a b c d x y z) (apZ a b c d x y z) (apX a b c d x y z) (apY a b c d x y z) (apZ a b c d x y z) = apX a b c d x y z * apX a b c d x y z + apY a b c d x y z * apY a b c d x y z + apZ a b c d x y z * apZ a b c d x y z := rfl
 rw [aP]
 exact ⟨BY hM (by omega), BY hM (by omega), BY hM (by omega)⟩
theorem Ey {a b c d x y z : Int} (ht : aA a b c d = true) (hz : ¬ (x = 0 ∧ y = 0 ∧ z = 0)) : ¬ (apX a b c d x y z = 0 ∧ apY a b c d x y z = 0 ∧ apZ a b c d x y z = 0) := by
 rintro ⟨h1, h2, h3⟩
 have hp := xA (kT ht)
 have hd := pQ a b c d x y z x y z
 rw [h1, h2, h3] at hd
 have := Int.mul_pos (Int.mul_pos hp hp) (nD hz)
 rw [← hd] at this
 exact absurd this (by decide)
def aJ (w : World) (b : Nat) (p q r s : Int) : Prop := w.cell? ⟨b, 0, none⟩ = some (.int .i64 p) ∧ w.cell? ⟨b, 1, none⟩ = some (.int .i64 q) ∧ w.cell? ⟨b, 2, none⟩ = some (.int .i64 r) ∧ w.cell? ⟨b, 3, none⟩ = some (.int .i64 s)
def eP (w : World) (b : Nat) : Prop := w.frozen? ⟨b, 0, none⟩ = false ∧ w.frozen? ⟨b, 1, none⟩ = false ∧ w.frozen? ⟨b, 2, none⟩ = false ∧ w.frozen? ⟨b, 3, none⟩ = false
theorem aJ.kept {w w' : World} {b : Nat} {p q r s : Int} (h : aJ w b p q r s) (hb : b < w.heap.size) (hB : Below w.heap.size w w') : aJ w' b p q r s := by
 obtain ⟨h0, h1, h2, h3⟩ := h
 exact ⟨by rw [hB.cell (p := ⟨b, 0, none⟩) hb]; exact h0, by rw [hB.cell (p := ⟨b, 1, none⟩) hb]; exact h1, by rw [hB.cell (p := ⟨b, 2, none⟩) hb]; exact h2, by rw [hB.cell (p := ⟨b, 3, none⟩) hb]; exact h3⟩
theorem eP.kept {w w' : World} {b : Nat} (h : eP w b) (hb : b < w.heap.size) (hB : Below w.heap.size w w') : eP w' b := by
 obtain ⟨h0, h1, h2, h3⟩ := h
 exact ⟨by rw [hB.frozen (p := ⟨b, 0, none⟩) hb]; exact h0, by rw [hB.frozen (p := ⟨b, 1, none⟩) hb]; exact h1, by rw [hB.frozen (p := ⟨b, 2, none⟩) hb]; exact h2, by rw [hB.frozen (p := ⟨b, 3, none⟩) hb]; exact h3⟩
theorem aH (w : World) (p q r s : Int) (t : TypeId) : aJ (w.alloc (.cells #[.int .i64 p, .int .i64 q, .int .i64 r, .int .i64 s] t)) w.heap.size p q r s := by
 refine ⟨?_, ?_, ?_, ?_⟩ <;> simp
theorem mT (w : World) (p q r s : Int) (t : TypeId) : eP (w.alloc (.cells #[.int .i64 p, .int .i64 q, .int .i64 r, .int .i64 s] t)) w.heap.size := by
 refine ⟨?_, ?_, ?_, ?_⟩ <;> simp
theorem aJ.lt {w : World} {b : Nat} {p q r s : Int} (h : aJ w b p q r s) : b < w.heap.size := World.block_lt_of_cell? w _ h.1
theorem aJ.alloc {w : World} {b : Nat} {p q r s : Int} (h : aJ w b p q r s) (o : Obj) : aJ (w.alloc o) b p q r s := h.kept h.lt (an _ _)
theorem eJ {w w1 : World} {b : Nat} (h : Below w.heap.size w w1) (hb : w.heap.size ≤ b) (x y z u : Value) : Below w.heap.size w ((((w1.setCell ⟨b, 0, none⟩ x).setCell ⟨b, 1, none⟩ y).setCell ⟨b, 2, none⟩ z).setCell ⟨b, 3, none⟩ u) := (((h.setCell hb _).setCell hb _).setCell hb _).setCell hb _
theorem aW {w w1 : World} {b : Nat} (h : Below w.heap.size w w1) (hb : w.heap.size ≤ b) (x y z u v : Value) : Below w.heap.size w (((((w1.setCell ⟨b, 0, none⟩ x).setCell ⟨b, 1, none⟩ y).setCell ⟨b, 2, none⟩ z).setCell ⟨b, 3, none⟩ u).setCell ⟨b, 4, none⟩ v) := ((((h.setCell hb _).setCell hb _).setCell hb _).setCell hb _).setCell hb _
theorem lE (p q r s : Int) (w : World) :
  Calls Tryz.prog 141 #[.agg #[.int .i64 p, .int .i64 q, .int .i64 r, .int .i64 s]] w fun e w' => e = .returned (.agg #[.int .i64 p, .int .i64 q, .int .i64 r, .int .i64 s]) ∧ Below w.heap.size w w' := by
 go_enter Tryz.func141, Tryz.ntmps141
 go_wp2
 exact bodyPost_ret (v := .agg #[.int .i64 p, .int .i64 q, .int .i64 r, .int .i64 s]) (by simp [results, Tryz.results141, go_sem]) rfl ⟨rfl, aO _ _ _⟩
theorem qp (a1 a2 a3 a4 b1 b2 b3 b4 : Int) (w : World) : (Op.equalIn 10000 32 (.agg #[.int .i64 a1, .int .i64 a2, .int .i64 a3, .int .i64 a4]) (.agg #[.int .i64 b1, .int .i64 b2, .int .i64 b3, .int .i64 b4])).run Tryz.prog w = .ok (eqT a1 a2 a3 a4 b1 b2 b3 b4) w := by
 have h := run_equalIn_struct (P := Tryz.prog) w 9999 32 #[.int .i64 a1, .int .i64 a2, .int .i64 a3, .int .i64 a4] #[.int .i64 b1, .int .i64 b2, .int .i64 b3, .int .i64 b4] (by kernel_rfl) (by kernel_rfl)
 refine h.trans ?_
 by_cases h1 : a1 = b1
 ·by_cases h2 : a2 = b2
  ·by_cases h3 : a3 = b3
   ·by_cases h4 : a4 = b4
    ·simp [go_sem, eqT, h1, h2, h3, h4]
    ·simp [go_sem, eqT, h1, h2, h3, h4]
   ·simp [go_sem, eqT, h1, h2, h3]
  ·simp [go_sem, eqT, h1, h2]
 ·simp [go_sem, eqT, h1]
theorem AT (a1 a2 a3 a4 b1 b2 b3 b4 : Int) (w : World) : (binOp .neq 32 (.agg #[.int .i64 a1, .int .i64 a2, .int .i64 a3, .int .i64 a4]) (.agg #[.int .i64 b1, .int .i64 b2, .int .i64 b3, .int .i64 b4])).run Tryz.prog w = .ok (.bool (!eqT a1 a2 a3 a4 b1 b2 b3 b4)) w := by
 rw [run_neq_struct, qp]; rfl
theorem mh (a1 a2 a3 a4 b1 b2 b3 b4 : Int) (w : World) : (binOp .eql 32 (.agg #[.int .i64 a1, .int .i64 a2, .int .i64 a3, .int .i64 a4]) (.agg #[.int .i64 b1, .int .i64 b2, .int .i64 b3, .int .i64 b4])).run Tryz.prog w = .ok (.bool (eqT a1 a2 a3 a4 b1 b2 b3 b4)) w := by
 rw [run_eql_struct, qp]; rfl
theorem jZ (m p q r s : Int) (w : World) (hm0 : 0 ≤ m) (hm : m ≤ 1000000) :
  Calls Tryz.prog 110 #[.agg #[.int .i64 p, .int .i64 q, .int .i64 r, .int .i64 s], .int .i64 m] w fun e w' => e = .returned (.bool (inT m p q r s)) ∧ Below w.heap.size w w' := by
 have i0 : ∀ w : World, (Instr.index 186 (.agg #[.int .i64 p, .int .i64 q, .int .i64 r, .int .i64 s]) (.int .i64 0)).run Tryz.prog w = .ok (.int .i64 p) w := fun _ => by kernel_rfl
 have i1 : ∀ w : World, (Instr.index 186 (.agg #[.int .i64 p, .int .i64 q, .int .i64 r, .int .i64 s]) (.int .i64 1)).run Tryz.prog w = .ok (.int .i64 q) w := fun _ => by kernel_rfl
 have i2 : ∀ w : World, (Instr.index 186 (.agg #[.int .i64 p, .int .i64 q, .int .i64 r, .int .i64 s]) (.int .i64 2)).run Tryz.prog w = .ok (.int .i64 r) w := fun _ => by kernel_rfl
 have i3 : ∀ w : World, (Instr.index 186 (.agg #[.int .i64 p, .int .i64 q, .int .i64 r, .int .i64 s]) (.int .i64 3)).run Tryz.prog w = .ok (.int .i64 s) w := fun _ => by kernel_rfl
 have hwr : wrap64 (-m) = -m := aq (by omega) (by omega)
 go_enter Tryz.func110, Tryz.ntmps110
 go_wp2_with fail
 refine (lE p q r s _).mono ?_
 rintro e w1 ⟨rfl, hB1⟩
 have hB : Below w.heap.size w w1 := ak (an _ _) hB1
 clear hB1
 go_wp2_with fail
 go_loop [9] (fun i => ∃ k : Nat, k ≤ 4 ∧ i = .int .i64 k ∧ Hid (0 < k → inB m p = true) ∧ Hid (1 < k → inB m q = true) ∧ Hid (2 < k → inB m r = true) ∧ Hid (3 < k → inB m s = true)) (fun i => 4 - (intOf i).toNat)
 case atStart => exact ⟨0, Nat.zero_le _, rfl, yz (by omega), yz (by omega), yz (by omega), yz (by omega)⟩
 case round =>
  obtain ⟨k, hk, rfl, hx, hy, hz, hu⟩ := hrel
  have hk5 : k = 0 ∨ k = 1 ∨ k = 2 ∨ k = 3 ∨ k = 4 := by omega
  rcases hk5 with rfl | rfl | rfl | rfl | rfl
  ·by_cases q1 : -m ≤ p
   ·by_cases q2 : p ≤ m
    ·have HI := yz (gL.2 ⟨q1, q2⟩)
     go_wp2
     go_round
     case rel => exact ⟨1, by omega, rfl, yz (fun _ => yy HI), yz (by omega), yz (by omega), yz (by omega)⟩
     case measure => simp [intOf]
    ·have HO := yz (mz (m := m) (x := p) (fun h => q2 h.2))
     go_wp2
     go_ret
     exact ⟨by simp [inT, yy HO], hB⟩
   ·have HO := yz (mz (m := m) (x := p) (fun h => q1 h.1))
    go_wp2
    go_ret
    exact ⟨by simp [inT, yy HO], hB⟩
  ·by_cases q1 : -m ≤ q
   ·by_cases q2 : q ≤ m
    ·have HI := yz (gL.2 ⟨q1, q2⟩)
     go_wp2
     go_round
     case rel => exact ⟨2, by omega, rfl, yz (fun _ => yy hx (by omega)), yz (fun _ => yy HI), yz (by omega), yz (by omega)⟩
     case measure => simp [intOf]
    ·have HO := yz (mz (m := m) (x := q) (fun h => q2 h.2))
     go_wp2
     go_ret
     exact ⟨by simp [inT, yy HO], hB⟩
   ·have HO := yz (mz (m := m) (x := q) (fun h => q1 h.1))
    go_wp2
    go_ret
    exact ⟨by simp [inT, yy HO], hB⟩
  ·by_cases q1 : -m ≤ r
   ·by_cases q2 : r ≤ m
    ·have HI := yz (gL.2 ⟨q1, q2⟩)
     go_wp2
     go_round
     case rel => exact ⟨3, by omega, rfl, yz (fun _ => yy hx (by omega)), yz (fun _ => yy hy (by omega)), yz (fun _ => yy HI), yz (by omega)⟩
     case measure => simp [intOf]
    ·have HO := yz (mz (m := m) (x := r) (fun h => q2 h.2))
     go_wp2
     go_ret
     exact ⟨by simp [inT, yy HO], hB⟩
   ·have HO := yz (mz (m := m) (x := r) (fun h => q1 h.1))
    go_wp2
    go_ret
    exact ⟨by simp [inT, yy HO], hB⟩
  ·by_cases q1 : -m ≤ s
   ·by_cases q2 : s ≤ m
    ·have HI := yz (gL.2 ⟨q1, q2⟩)
     go_wp2
     go_round
     case rel => exact ⟨4, by omega, rfl, yz (fun _ => yy hx (by omega)), yz (fun _ => yy hy (by omega)), yz (fun _ => yy hz (by omega)), yz (fun _ => yy HI)⟩
     case measure => simp [intOf]
    ·have HO := yz (mz (m := m) (x := s) (fun h => q2 h.2))
     go_wp2
     go_ret
     exact ⟨by simp [inT, yy HO], hB⟩
   ·have HO := yz (mz (m := m) (x := s) (fun h => q1 h.1))
    go_wp2
    go_ret
    exact ⟨by simp [inT, yy HO], hB⟩
  ·go_wp2
   go_ret
   exact ⟨by simp [inT, yy hx (by omega), yy hy (by omega), yy hz (by omega), yy hu (by omega)], hB⟩
theorem le (m a b c d : Int) (w : World) (hm0 : 0 ≤ m) (hm : m ≤ 1000000) :
  Calls Tryz.prog 66 #[.agg #[.int .i64 a, .int .i64 b, .int .i64 c, .int .i64 d], .int .i64 m] w fun e w' => e = .returned (.bool (inT m a b c d)) ∧ Below w.heap.size w w' := by
 have hwr : wrap64 (-m) = -m := aq (by omega) (by omega)
 go_enter Tryz.func66, Tryz.ntmps66
 go_wp2_with fail
 refine (dE a (-m) m _).mono ?_
 rintro e w1 ⟨rfl, rfl⟩
 rw [isB]
 cases ha : inB m a
 ·go_wp2_with fail
  go_ret
  exact ⟨by simp [inT, ha], an _ _⟩
 ·go_wp2_with fail
  refine (dE b (-m) m _).mono ?_
  rintro e w1 ⟨rfl, rfl⟩
  rw [isB]
  cases hb : inB m b
  ·go_wp2_with fail
   go_ret
   exact ⟨by simp [inT, hb], an _ _⟩
  ·go_wp2_with fail
   refine (dE c (-m) m _).mono ?_
   rintro e w1 ⟨rfl, rfl⟩
   rw [isB]
   cases hc : inB m c
   ·go_wp2_with fail
    go_ret
    exact ⟨by simp [inT, hc], an _ _⟩
   ·go_wp2_with fail
    refine (dE d (-m) m _).mono ?_
    rintro e w1 ⟨rfl, rfl⟩
    rw [isB]
    go_wp2_with fail
    go_ret
    exact ⟨by simp [inT, ha, hb, hc], an _ _⟩
theorem fT_0 {a b c d : Int} (h : a ≠ 0) : fT a b c d = a := by unfold fT; rw [if_pos h]
theorem fT_1 {b c d : Int} (h : b ≠ 0) : fT 0 b c d = b := by unfold fT; rw [if_neg (by simp), if_pos h]
theorem fT_2 {c d : Int} (h : c ≠ 0) : fT 0 0 c d = c := by unfold fT; rw [if_neg (by simp), if_neg (by simp), if_pos h]
theorem fT_3 {d : Int} : fT 0 0 0 d = d := by unfold fT; rw [if_neg (by simp), if_neg (by simp), if_neg (by simp)]
theorem jz (a b c d : Int) (w : World) :
  Calls Tryz.prog 67 #[.agg #[.int .i64 a, .int .i64 b, .int .i64 c, .int .i64 d]] w fun e w' => e = .returned (.int .i64 (fT a b c d)) ∧ Below w.heap.size w w' := by
 go_enter Tryz.func67, Tryz.ntmps67
 go_wp2_with fail
 go_loop [4] (fun i => ∃ k : Nat, k ≤ 4 ∧ i = .int .i64 k ∧ Hid (0 < k → a = 0) ∧ Hid (1 < k → b = 0) ∧ Hid (2 < k → c = 0) ∧ Hid (3 < k → d = 0)) (fun i => 4 - (intOf i).toNat)
 case atStart => exact ⟨0, Nat.zero_le _, rfl, yz (by omega), yz (by omega), yz (by omega), yz (by omega)⟩
 case round =>
  obtain ⟨k, hk, rfl, hx, hy, hz, hu⟩ := hrel
  have hk5 : k = 0 ∨ k = 1 ∨ k = 2 ∨ k = 3 ∨ k = 4 := by omega
  rcases hk5 with rfl | rfl | rfl | rfl | rfl
  ·have _u := hk
   by_cases h : a = 0
   ·subst h
    clear hx hy hz hu
    go_wp2
    go_round
    case rel => exact ⟨1, by omega, rfl, yz (by simp), yz (by omega), yz (by omega), yz (by omega)⟩
    case measure => simp [intOf]
   ·have HF : Hid (fT a b c d = a) := yz (fT_0 h)
    clear hx hy hz hu
    go_wp2
    go_ret
    exact ⟨by rw [yy HF]; rfl, aO _ _ _⟩
  ·have e0 := yy hx (by omega)
   subst e0
   by_cases h : b = 0
   ·subst h
    clear hx hy hz hu
    go_wp2
    go_round
    case rel => exact ⟨2, by omega, rfl, yz (by simp), yz (by simp), yz (by omega), yz (by omega)⟩
    case measure => simp [intOf]
   ·have HF : Hid (fT 0 b c d = b) := yz (fT_1 h)
    clear hx hy hz hu
    go_wp2
    go_ret
    exact ⟨by rw [yy HF]; rfl, aO _ _ _⟩
  ·have e0 := yy hx (by omega)
   have e1 := yy hy (by omega)
   subst e0 e1
   by_cases h : c = 0
   ·subst h
    clear hx hy hz hu
    go_wp2
    go_round
    case rel => exact ⟨3, by omega, rfl, yz (by simp), yz (by simp), yz (by simp), yz (by omega)⟩
    case measure => simp [intOf]
   ·have HF : Hid (fT 0 0 c d = c) := yz (fT_2 h)
    clear hx hy hz hu
    go_wp2
    go_ret
    exact ⟨by rw [yy HF]; rfl, aO _ _ _⟩
  ·have e0 := yy hx (by omega)
   have e1 := yy hy (by omega)
   have e2 := yy hz (by omega)
   subst e0 e1 e2
   by_cases h : d = 0
   ·subst h
    clear hx hy hz hu
    go_wp2
    go_round
    case rel => exact ⟨4, by omega, rfl, yz (by simp), yz (by simp), yz (by simp), yz (by simp)⟩
    case measure => simp [intOf]
   ·have HF : Hid (fT 0 0 0 d = d) := yz fT_3
    clear hx hy hz hu
    go_wp2
    go_ret
    exact ⟨by rw [yy HF]; rfl, aO _ _ _⟩
  ·have e0 := yy hx (by omega)
   have e1 := yy hy (by omega)
   have e2 := yy hz (by omega)
   have e3 := yy hu (by omega)
   subst e0 e1 e2 e3
   clear hx hy hz hu
   go_wp2
   go_ret
   exact ⟨by rw [fT_3]; rfl, aO _ _ _⟩
theorem qD (a b c d : Int) (w : World) (h : inT 1000 a b c d = true) :
  Calls Tryz.prog 68 #[.agg #[.int .i64 a, .int .i64 b, .int .i64 c, .int .i64 d]] w fun e w' => e = .returned (.int .i64 (gT a b c d)) ∧ Below w.heap.size w w' := by
 obtain ⟨ha, hb, hc, hd⟩ := bR.1 h
 have hg1 := lM ha hb
 have hg2 := lM hc hd
 go_enter Tryz.func68, Tryz.ntmps68
 go_wp2_with fail
 go_quiet (first | (go_at_call_of 56 (Value.int IntKind.i64 a); refine Calls.quiet_of (gW a b _ (by omega) (by omega))) | (go_at_call_of 56 (Value.int IntKind.i64 c); refine Calls.quiet_of (gW c d _ (by omega) (by omega))) | (go_at_call 56; refine Calls.quiet_of (gW _ _ _ ?_ ?_) <;> omega))
 go_wp2
 go_ret
 exact ⟨rfl, ak (an _ _) (dg _ _)⟩
theorem bf (a b c d : Int) (w : World) :
  Calls Tryz.prog 48 #[.agg #[.int .i64 a, .int .i64 b, .int .i64 c, .int .i64 d]] w fun e w' => e = .returned (.bool (aA a b c d)) ∧ Below w.heap.size w w' := by
 go_enter Tryz.func48, Tryz.ntmps48
 go_wp2_with fail
 refine (le 5 a b c d _ (by omega) (by omega)).mono ?_
 rintro e w1 ⟨rfl, hB1⟩
 have va : aJ w1 w.heap.size a b c d := (aH w a b c d _).kept (by simp) hB1
 have hB : Below w.heap.size w w1 := ak (an _ _) hB1
 clear hB1
 have hva := va
 obtain ⟨c0, c1, c2, c3⟩ := va
 cases h5 : inT 5 a b c d
 ·go_wp2_with fail
  go_ret
  exact ⟨by simp [aA, h5], hB⟩
 ·go_wp2_with fail
  refine (jz a b c d _).mono ?_
  rintro e w2 ⟨rfl, hB2⟩
  have va := hva.kept hva.lt hB2
  replace hB := ak hB hB2
  clear hB2 hva c0 c1 c2 c3
  have hva := va
  obtain ⟨c0, c1, c2, c3⟩ := va
  by_cases hf : 0 < fT a b c d
  ·go_wp2_with fail
   refine (qD a b c d _ (qE h5 (by omega))).mono ?_
   rintro e w3 ⟨rfl, hB3⟩
   replace hB := ak hB hB3
   go_wp2_with fail
   go_ret
   exact ⟨by rw [aA, h5, decide_eq_true hf]; rfl, hB⟩
  ·have HN := yz (decide_eq_false hf)
   go_wp2_with fail
   go_ret
   exact ⟨by rw [aA, h5, yy HN]; rfl, hB⟩
end
section
open Go.RowKit Go.Sort
def ptT (a b c d : Int) : Nat → Int
 | 0 => a
 | 1 => b
 | 2 => c
 | _ => d
def gS4 (a b c d : Int) : Nat → Int
 | 0 => 0
 | k + 1 => ((Int.gcd (gS4 a b c d k) (ptT a b c d k) : Nat) : Int)
def fS4 (a b c d : Int) : Nat → Int
 | 0 => 0
 | k + 1 => if fS4 a b c d k = 0 then ptT a b c d k else fS4 a b c d k
theorem qw {m a b c d : Int} (h : inT m a b c d = true) (k : Nat) : -m ≤ ptT a b c d k ∧ ptT a b c d k ≤ m := by
 obtain ⟨h1, h2, h3, h4⟩ := bR.1 h
 match k with
 | 0 => exact h1
 | 1 => exact h2
 | 2 => exact h3
 | _ + 3 => exact h4
theorem mZ {a b c d : Int} (h : inT 1000 a b c d = true) (k : Nat) : -1000000 ≤ gS4 a b c d k ∧ gS4 a b c d k ≤ 1000000 := by
 have : 0 ≤ gS4 a b c d k ∧ gS4 a b c d k ≤ 1000 := by
  induction k with
  | zero => exact ⟨by show (0 : Int) ≤ 0; omega, by show (0 : Int) ≤ 1000; omega⟩
  | succ k ih => exact lM (m := 1000) (by omega) (qw h k)
 omega
theorem Dw (a b c d : Int) : fS4 a b c d 4 = fT a b c d := by
 unfold fT
 by_cases h1 : a = 0
 ·by_cases h2 : b = 0
  ·by_cases h3 : c = 0
   ·simp [fS4, ptT, h1, h2, h3]
   ·simp [fS4, ptT, h1, h2, h3]
  ·simp [fS4, ptT, h1, h2]
 ·simp [fS4, ptT, h1]
theorem yA {a b c d : Int} {k : Nat} (h : fS4 a b c d k = 0) : fS4 a b c d (k + 1) = ptT a b c d k := by
 show (if fS4 a b c d k = 0 then ptT a b c d k else fS4 a b c d k) = _
 rw [if_pos h]
theorem yT {a b c d : Int} {k : Nat} (h : fS4 a b c d k ≠ 0) : fS4 a b c d (k + 1) = fS4 a b c d k := by
 show (if fS4 a b c d k = 0 then ptT a b c d k else fS4 a b c d k) = _
 rw [if_neg h]
theorem og (a b c d : Int) (w : World) (h : inT 1000 a b c d = true) (hz : ¬ (a = 0 ∧ b = 0 ∧ c = 0 ∧ d = 0)) :
  Calls Tryz.prog 111 #[.agg #[.int .i64 a, .int .i64 b, .int .i64 c, .int .i64 d]] w fun e w' => e = .returned (.agg #[.int .i64 (a.tdiv (sT a b c d)), .int .i64 (b.tdiv (sT a b c d)), .int .i64 (c.tdiv (sT a b c d)), .int .i64 (d.tdiv (sT a b c d))]) ∧ Below w.heap.size w w' := by
 have i0 : ∀ w : World, (Instr.index 186 (.agg #[.int .i64 a, .int .i64 b, .int .i64 c, .int .i64 d]) (.int .i64 0)).run Tryz.prog w = .ok (.int .i64 a) w := fun _ => by kernel_rfl
 have i1 : ∀ w : World, (Instr.index 186 (.agg #[.int .i64 a, .int .i64 b, .int .i64 c, .int .i64 d]) (.int .i64 1)).run Tryz.prog w = .ok (.int .i64 b) w := fun _ => by kernel_rfl
 have i2 : ∀ w : World, (Instr.index 186 (.agg #[.int .i64 a, .int .i64 b, .int .i64 c, .int .i64 d]) (.int .i64 2)).run Tryz.prog w = .ok (.int .i64 c) w := fun _ => by kernel_rfl
 have i3 : ∀ w : World, (Instr.index 186 (.agg #[.int .i64 a, .int .i64 b, .int .i64 c, .int .i64 d]) (.int .i64 3)).run Tryz.prog w = .ok (.int .i64 d) w := fun _ => by kernel_rfl
 have HI := yz h
 have HZ := yz hz
 have HW : Hid (∀ (x s : Int), -1000 ≤ x ∧ x ≤ 1000 → wrap64 (x.tdiv s) = x.tdiv s) := yz (fun x s hx => by have := yB (s := s) hx; exact aq (by omega) (by omega))
 clear h hz
 go_enter Tryz.func111, Tryz.ntmps111
 go_wp2_with fail
 refine (lE a b c d _).mono ?_
 rintro e w1 ⟨rfl, hB1⟩
 have va : aJ w1 w.heap.size a b c d := ((aH w a b c d _).alloc _).kept (by simp; omega) hB1
 have vr : aJ w1 (w.heap.size + 1) 0 0 0 0 := (by simpa using aH (w.alloc _) 0 0 0 0 _ : aJ _ (w.heap.size + 1) 0 0 0 0).kept (by simp) hB1
 have fr : eP w1 (w.heap.size + 1) := (by simpa using mT (w.alloc _) 0 0 0 0 _ : eP _ (w.heap.size + 1)).kept (by simp) hB1
 have hB : Below w.heap.size w w1 := ak (aO _ _ _) hB1
 clear hB1
 have Va := yz va
 have Vr := yz vr
 have Fr := yz fr
 have HB := yz hB
 clear va vr fr hB
 go_wp2_with fail
 go_loopw [3, 4, 9] (fun u f i wr => ∃ (k n : Nat), k ≤ 4 ∧ i = .int .i64 k ∧ u = .int .i64 (gS4 a b c d k) ∧ f = .int .i64 (fS4 a b c d k) ∧ wr = w1.drewN n) (fun _ _ i _ => 4 - (intOf i).toNat)
 case atStart => exact ⟨0, 0, by omega, rfl, rfl, rfl, rfl⟩
 case round =>
  obtain ⟨k, n, hk, rfl, rfl, rfl, rfl⟩ := hrel
  have hk5 : k = 0 ∨ k = 1 ∨ k = 2 ∨ k = 3 ∨ k = 4 := by omega
  rcases hk5 with rfl | rfl | rfl | rfl | rfl
  ·go_wp2_with fail
   refine (fi _ a _ (mZ (yy HI) 0) (by have := qw (yy HI) 0; simp only [ptT] at this; omega)).mono ?_
   rintro e w3 ⟨rfl, m, rfl⟩
   have hg : ((Int.gcd (gS4 a b c d 0) a : Nat) : Int) = gS4 a b c d 1 := rfl
   rw [hg]
   clear hg
   by_cases hf : fS4 a b c d 0 = 0
   ·have HF := yz (yA hf)
    rw [hf]
    clear hf
    go_wp2_with fail
    go_roundw
    case rel => exact ⟨1, n + m, by omega, rfl, rfl, by rw [yy HF]; rfl, by simp⟩
    case measure => simp [intOf]
   ·have HF := yz (yT hf)
    have hb : (fS4 a b c d 0 == 0) = false := by simpa using hf
    clear hf
    go_wp2_with fail
    go_roundw
    case rel => exact ⟨1, n + m, by omega, rfl, rfl, by rw [yy HF], by simp⟩
    case measure => simp [intOf]
  ·go_wp2_with fail
   refine (fi _ b _ (mZ (yy HI) 1) (by have := qw (yy HI) 1; simp only [ptT] at this; omega)).mono ?_
   rintro e w3 ⟨rfl, m, rfl⟩
   have hg : ((Int.gcd (gS4 a b c d 1) b : Nat) : Int) = gS4 a b c d 2 := rfl
   rw [hg]
   clear hg
   by_cases hf : fS4 a b c d 1 = 0
   ·have HF := yz (yA hf)
    rw [hf]
    clear hf
    go_wp2_with fail
    go_roundw
    case rel => exact ⟨2, n + m, by omega, rfl, rfl, by rw [yy HF]; rfl, by simp⟩
    case measure => simp [intOf]
   ·have HF := yz (yT hf)
    have hb : (fS4 a b c d 1 == 0) = false := by simpa using hf
    clear hf
    go_wp2_with fail
    go_roundw
    case rel => exact ⟨2, n + m, by omega, rfl, rfl, by rw [yy HF], by simp⟩
    case measure => simp [intOf]
  ·go_wp2_with fail
   refine (fi _ c _ (mZ (yy HI) 2) (by have := qw (yy HI) 2; simp only [ptT] at this; omega)).mono ?_
   rintro e w3 ⟨rfl, m, rfl⟩
   have hg : ((Int.gcd (gS4 a b c d 2) c : Nat) : Int) = gS4 a b c d 3 := rfl
   rw [hg]
   clear hg
   by_cases hf : fS4 a b c d 2 = 0
   ·have HF := yz (yA hf)
    rw [hf]
    clear hf
    go_wp2_with fail
    go_roundw
    case rel => exact ⟨3, n + m, by omega, rfl, rfl, by rw [yy HF]; rfl, by simp⟩
    case measure => simp [intOf]
   ·have HF := yz (yT hf)
    have hb : (fS4 a b c d 2 == 0) = false := by simpa using hf
    clear hf
    go_wp2_with fail
    go_roundw
    case rel => exact ⟨3, n + m, by omega, rfl, rfl, by rw [yy HF], by simp⟩
    case measure => simp [intOf]
  ·go_wp2_with fail
   refine (fi _ d _ (mZ (yy HI) 3) (by have := qw (yy HI) 3; simp only [ptT] at this; omega)).mono ?_
   rintro e w3 ⟨rfl, m, rfl⟩
   have hg : ((Int.gcd (gS4 a b c d 3) d : Nat) : Int) = gS4 a b c d 4 := rfl
   rw [hg]
   clear hg
   by_cases hf : fS4 a b c d 3 = 0
   ·have HF := yz (yA hf)
    rw [hf]
    clear hf
    go_wp2_with fail
    go_roundw
    case rel => exact ⟨4, n + m, by omega, rfl, rfl, by rw [yy HF]; rfl, by simp⟩
    case measure => simp [intOf]
   ·have HF := yz (yT hf)
    have hb : (fS4 a b c d 3 == 0) = false := by simpa using hf
    clear hf
    go_wp2_with fail
    go_roundw
    case rel => exact ⟨4, n + m, by omega, rfl, rfl, by rw [yy HF], by simp⟩
    case measure => simp [intOf]
  ·have hg : gS4 a b c d 4 = gT a b c d := oY a b c d
   rw [hg, Dw]
   clear hg i0 i1 i2 i3
   have hw : wrap64 (-gT a b c d) = -gT a b c d := by have := mZ (yy HI) 4; rw [show gS4 a b c d 4 = gT a b c d from oY a b c d] at this; exact aq (by omega) (by omega)
   have HE : Hid (∀ g, g = sT a b c d → Value.agg #[.int .i64 (wrap64 (a.tdiv g)), .int .i64 (wrap64 (b.tdiv g)), .int .i64 (wrap64 (c.tdiv g)), .int .i64 (wrap64 (d.tdiv g))] = .agg #[.int .i64 (a.tdiv (sT a b c d)), .int .i64 (b.tdiv (sT a b c d)), .int .i64 (c.tdiv (sT a b c d)), .int .i64 (d.tdiv (sT a b c d))]) := yz (by
    rintro g rfl
    obtain ⟨x1, x2, x3, x4⟩ := bR.1 (yy HI)
    rw [yy HW _ _ x1, yy HW _ _ x2, yy HW _ _ x3, yy HW _ _ x4])
   have HN : Hid (sT a b c d ≠ 0) := yz (DO (yy HZ))
   have va : aJ (w1.drewN n) w.heap.size a b c d := yy Va
   have vr : aJ (w1.drewN n) (w.heap.size + 1) 0 0 0 0 := yy Vr
   have fr : eP (w1.drewN n) (w.heap.size + 1) := yy Fr
   have hB : Below w.heap.size w (w1.drewN n) := ak (yy HB) (dg _ _)
   clear Va Vr Fr HB HW HI HZ
   by_cases hf : fT a b c d < 0
   ·have hs : sT a b c d = -gT a b c d := by unfold sT; rw [if_pos hf]
    have HG := yz hs.symm
    rw [hs] at HN
    go_wp2_with fail
    rw [hw]
    generalize -gT a b c d = g at HN HG ⊢
    clear hw hs hf
    have hne : g ≠ 0 := yy HN
    have hz0 : (g == 0) = false := by simpa using hne
    generalize w1.drewN n = w3 at va vr fr hB ⊢
    obtain ⟨ca0, ca1, ca2, ca3⟩ := va
    obtain ⟨cr0, cr1, cr2, cr3⟩ := vr
    obtain ⟨fr0, fr1, fr2, fr3⟩ := fr
    go_region
    go_wp2
    exact bodyPost_ret (v := _) (by simp [results, Tryz.results111, go_sem, cr0, cr1, cr2, cr3]) rfl ⟨congrArg _ (yy HE g (yy HG)), (eJ hB (by omega) _ _ _ _).drew⟩
   ·have hs : sT a b c d = gT a b c d := by unfold sT; rw [if_neg hf]
    have HG := yz hs.symm
    rw [hs] at HN
    go_wp2_with fail
    generalize gT a b c d = g at HN HG ⊢
    clear hw hs hf
    have hne : g ≠ 0 := yy HN
    have hz0 : (g == 0) = false := by simpa using hne
    generalize w1.drewN n = w3 at va vr fr hB ⊢
    obtain ⟨ca0, ca1, ca2, ca3⟩ := va
    obtain ⟨cr0, cr1, cr2, cr3⟩ := vr
    obtain ⟨fr0, fr1, fr2, fr3⟩ := fr
    go_region
    go_wp2
    exact bodyPost_ret (v := _) (by simp [results, Tryz.results111, go_sem, cr0, cr1, cr2, cr3]) rfl ⟨congrArg _ (yy HE g (yy HG)), (eJ hB (by omega) _ _ _ _).drew⟩
theorem kv {a b c d : Int} (h : hU a b c d = false) : ¬ (a = 0 ∧ b = 0 ∧ c = 0 ∧ d = 0) := fun e => by rw [iQ.2 e] at h; exact absurd h (by decide)
theorem vD {a b c d : Int} (h : hU a b c d = true) : aA a b c d = false := by
 cases hr : aA a b c d
 ·rfl
 ·exact absurd (iQ.1 h) (kT hr)
theorem bj (a b c d : Int) (w : World) :
  Calls Tryz.prog 82 #[.agg #[.int .i64 a, .int .i64 b, .int .i64 c, .int .i64 d]] w fun e w' => e = .returned (.bool (aA a b c d)) ∧ Below w.heap.size w w' := by
 have hn := fun w => AT a b c d 0 0 0 0 w
 have va0 := aH w a b c d 32
 have hB0 := an w (.cells #[.int .i64 a, .int .i64 b, .int .i64 c, .int .i64 d] 32)
 cases hz : eqT a b c d 0 0 0 0
 ·rw [hz] at hn
  have HZ := yz (kv (show hU a b c d = false from hz))
  cases h5 : inT 5 a b c d
  ·have HR : Hid (aA a b c d = false) := yz (by rw [aA, h5]; rfl)
   have cW := yz (fun W => (jZ 5 a b c d W (by omega) (by omega)).mono (fun e w' h => (⟨by rw [h.1, h5], h.2⟩ : e = .returned (.bool false) ∧ Below W.heap.size W w')))
   clear h5 hz
   go_enter Tryz.func82, Tryz.ntmps82
   go_wp2_with fail
   generalize w.alloc (.cells #[.int .i64 a, .int .i64 b, .int .i64 c, .int .i64 d] 32) = w1 at va0 hB0 ⊢
   obtain ⟨c0, c1, c2, c3⟩ := va0
   have k0 := cell_regrown c0
   have k1 := cell_regrown c1
   have k2 := cell_regrown c2
   have k3 := cell_regrown c3
   refine wp_region_quiet_below (by kernel_rfl) (by kernel_rfl) ?_
   repeat (quiet_step (exact Calls.regrown_of (yy cW _)))
   refine wpQuiet_nil ?_
   intro _ hw'
   obtain ⟨⟨dq, osq⟩, hw''⟩ := hw'
   subst hw''
   clear c0 c1 c2 c3 k0 k1 k2 k3 hn
   go_wp2
   go_ret
   exact ⟨by rw [yy HR]; rfl, ak hB0 (below_regrown w1 dq osq)⟩
  ·have HR := yz (rj (yy HZ))
   have HT : Hid (aA a b c d = (decide (0 < fT a b c d) && decide (gT a b c d = 1))) := yz (by rw [aA, h5, Bool.true_and])
   have cW := yz (fun W => (jZ 5 a b c d W (by omega) (by omega)).mono (fun e w' h => (⟨by rw [h.1, h5], h.2⟩ : e = .returned (.bool true) ∧ Below W.heap.size W w')))
   have cR := yz (fun W => og a b c d W (qE h5 (by omega)) (yy HZ))
   have he := fun w => mh a b c d (a.tdiv (sT a b c d)) (b.tdiv (sT a b c d)) (c.tdiv (sT a b c d)) (d.tdiv (sT a b c d)) w
   rw [yy HR] at he
   clear h5 hz HZ HR
   go_enter Tryz.func82, Tryz.ntmps82
   go_wp2_with fail
   generalize w.alloc (.cells #[.int .i64 a, .int .i64 b, .int .i64 c, .int .i64 d] 32) = w1 at va0 hB0 ⊢
   obtain ⟨c0, c1, c2, c3⟩ := va0
   have k0 := cell_regrown c0
   have k1 := cell_regrown c1
   have k2 := cell_regrown c2
   have k3 := cell_regrown c3
   refine wp_region_quiet_below (by kernel_rfl) (by kernel_rfl) ?_
   repeat (quiet_step (first | (with_reducible exact Calls.regrown_of (yy cW _)) | (with_reducible exact Calls.regrown_of (yy cR _))))
   refine wpQuiet_nil ?_
   intro _ hw'
   obtain ⟨⟨dq, osq⟩, hw''⟩ := hw'
   subst hw''
   clear c0 c1 c2 c3 k0 k1 k2 k3 hn he
   go_wp2
   go_ret
   exact ⟨by rw [yy HT]; rfl, ak hB0 (below_regrown w1 dq osq)⟩
 ·rw [hz] at hn
  have HR := yz (vD (show hU a b c d = true from hz))
  clear hz
  go_enter Tryz.func82, Tryz.ntmps82
  go_wp2_with fail
  generalize w.alloc (.cells #[.int .i64 a, .int .i64 b, .int .i64 c, .int .i64 d] 32) = w1 at va0 hB0 ⊢
  obtain ⟨c0, c1, c2, c3⟩ := va0
  have k0 := cell_regrown c0
  have k1 := cell_regrown c1
  have k2 := cell_regrown c2
  have k3 := cell_regrown c3
  refine wp_region_quiet_below (by kernel_rfl) (by kernel_rfl) ?_
  repeat (quiet_step (fail))
  refine wpQuiet_nil ?_
  intro _ hw'
  obtain ⟨⟨dq, osq⟩, hw''⟩ := hw'
  subst hw''
  clear c0 c1 c2 c3 k0 k1 k2 k3 hn
  go_wp2
  go_ret
  exact ⟨by rw [yy HR]; rfl, ak hB0 (below_regrown w1 dq osq)⟩
theorem yV {a b c d x y z : Int} (h : apR a b c d x y z = false) : Value.agg #[.int .i64 (apI (apR a b c d x y z) (apX a b c d x y z)), .int .i64 (apI (apR a b c d x y z) (apY a b c d x y z)), .int .i64 (apI (apR a b c d x y z) (apZ a b c d x y z))] = Value.agg #[.int .i64 0, .int .i64 0, .int .i64 0] := by
 rw [h]; rfl
theorem Dn {a b c d x y z : Int} (h : apR a b c d x y z = true) : Value.agg #[.int .i64 (apI (apR a b c d x y z) (apX a b c d x y z)), .int .i64 (apI (apR a b c d x y z) (apY a b c d x y z)), .int .i64 (apI (apR a b c d x y z) (apZ a b c d x y z))] = Value.agg #[.int .i64 (apX a b c d x y z), .int .i64 (apY a b c d x y z), .int .i64 (apZ a b c d x y z)] := by
 rw [h]; rfl
theorem oQ {x y z : Int} (h : cz x y z = true) : aK 1800 x y z = true := by unfold cz at h; rw [Bool.and_eq_true] at h; exact h.2
theorem jE (a b c d x y z : Int) (w : World) (ht : inT 5 a b c d = true) (hv : aK 1800 x y z = true) :
  Calls Tryz.prog 41 #[.agg #[.int .i64 a, .int .i64 b, .int .i64 c, .int .i64 d], .agg #[.int .i64 x, .int .i64 y, .int .i64 z]] w fun e w' => e = .returned (.agg #[.int .i64 (apX a b c d x y z), .int .i64 (apY a b c d x y z), .int .i64 (apZ a b c d x y z)]) ∧ Below w.heap.size w w' := by
 have HX := yz (DQ ht hv)
 have HY := yz (DD ht hv)
 have HZ := yz (DP ht hv)
 clear ht hv
 go_enter Tryz.func41, Tryz.ntmps41
 go_wp2
 rw [yy HX, yy HY, yy HZ]
 exact bodyPost_ret (v := .agg #[.int .i64 (apX a b c d x y z), .int .i64 (apY a b c d x y z), .int .i64 (apZ a b c d x y z)]) (by simp [results, Tryz.results41, go_sem]) rfl ⟨rfl, dW _ _ _ _⟩
theorem rR (a b c d x y z : Int) (w : World) :
  Calls Tryz.prog 134 #[.agg #[.int .i64 a, .int .i64 b, .int .i64 c, .int .i64 d], .agg #[.int .i64 x, .int .i64 y, .int .i64 z]] w fun e w' => e = .returned (.agg #[.int .i64 (apI (apR a b c d x y z) (apX a b c d x y z)), .int .i64 (apI (apR a b c d x y z) (apY a b c d x y z)), .int .i64 (apI (apR a b c d x y z) (apZ a b c d x y z))]) ∧ Below w.heap.size w w' := by
 go_enter Tryz.func134, Tryz.ntmps134
 go_wp2_with fail
 refine (bj a b c d _).mono ?_
 rintro e w1 ⟨rfl, hx⟩
 have va : aJ w1 w.heap.size a b c d := (((aH w a b c d _).alloc _).alloc _).kept (by simp; omega) hx
 have vv : aG w1 (w.heap.size + 1) x y z := ((by simpa using aF (w.alloc _) x y z _ : aG _ (w.heap.size + 1) x y z).alloc (by simp) _).kept (by simp) hx
 have vr : aG w1 (w.heap.size + 1 + 1) 0 0 0 := (by simpa using aF ((w.alloc _).alloc _) 0 0 0 _ : aG _ (w.heap.size + 1 + 1) 0 0 0).kept (by simp) hx
 have fr : eS w1 (w.heap.size + 1 + 1) := (by simpa using eC ((w.alloc _).alloc _) 0 0 0 _ : eS _ (w.heap.size + 1 + 1)).kept (by simp) hx
 have hs : w.heap.size + 2 < w1.heap.size := by have := hx.size; simp at this; omega
 have hB : Below w.heap.size w w1 := ak (dW _ _ _ _) hx
 clear hx
 cases h1 : aA a b c d
 ·have HR := yz (yV (a := a) (b := b) (c := c) (d := d) (x := x) (y := y) (z := z) (by rw [apR, h1]; rfl))
  obtain ⟨cr0, cr1, cr2⟩ := vr
  obtain ⟨fr0, fr1, fr2⟩ := fr
  go_wp2_with fail
  exact bodyPost_ret (v := .agg #[.int .i64 0, .int .i64 0, .int .i64 0]) (by simp [results, Tryz.results134, go_sem, cr0, cr1, cr2]) rfl ⟨by rw [yy HR], bI hB (by omega) _ _ _⟩
 ·have wa := va
  have wv := vv
  obtain ⟨ca0, ca1, ca2, ca3⟩ := wa
  obtain ⟨cv0, cv1, cv2⟩ := wv
  go_wp2_with fail
  clear ca0 ca1 ca2 ca3 cv0 cv1 cv2
  refine (jv x y z _).mono ?_
  rintro e w2 ⟨rfl, hx⟩
  replace va := va.kept (by omega) hx
  replace vv := vv.kept (by omega) hx
  replace vr := vr.kept (by omega) hx
  replace fr := fr.kept (by omega) hx
  replace hB := ak hB hx
  replace hs : w.heap.size + 2 < w2.heap.size := by have := hx.size; omega
  clear hx
  cases h2 : cz x y z
  ·have HR := yz (yV (a := a) (b := b) (c := c) (d := d) (x := x) (y := y) (z := z) (by rw [apR, h1, h2]; rfl))
   obtain ⟨cr0, cr1, cr2⟩ := vr
   obtain ⟨fr0, fr1, fr2⟩ := fr
   go_wp2_with fail
   exact bodyPost_ret (v := .agg #[.int .i64 0, .int .i64 0, .int .i64 0]) (by simp [results, Tryz.results134, go_sem, cr0, cr1, cr2]) rfl ⟨by rw [yy HR], bI hB (by omega) _ _ _⟩
  ·have wa := va
   have wv := vv
   obtain ⟨ca0, ca1, ca2, ca3⟩ := wa
   obtain ⟨cv0, cv1, cv2⟩ := wv
   have HR := yz (Dn (a := a) (b := b) (c := c) (d := d) (x := x) (y := y) (z := z) (by rw [apR, h1, h2]; rfl))
   have HX := yz (DQ (aZ.1 h1).1 (oQ h2))
   have HY := yz (DD (aZ.1 h1).1 (oQ h2))
   have HZ := yz (DP (aZ.1 h1).1 (oQ h2))
   obtain ⟨cr0, cr1, cr2⟩ := vr
   obtain ⟨fr0, fr1, fr2⟩ := fr
   clear va vv h1 h2
   go_wp2
   go_quiet (fail)
   go_wp2
   go_quiet (fail)
   go_wp2
   go_quiet (fail)
   go_wp2
   rw [yy HX, yy HY, yy HZ]
   exact bodyPost_ret (v := .agg #[.int .i64 (apX a b c d x y z), .int .i64 (apY a b c d x y z), .int .i64 (apZ a b c d x y z)]) (by simp [results, Tryz.results134, go_sem, cr0, cr1, cr2]) rfl ⟨by rw [yy HR], bI (ak hB (dg _ _)) (by omega) _ _ _⟩
def lj (x y z cone : Int) : Bool := decide (0 < z) && decide (wrap64 (wrap64 (cone * cone) * bx x y z x y z) ≤ wrap64 (wrap64 (10000 * z) * z))
def sB (s : St) (a b c d cone : Int) : Bool := lj (apX a b c d s.2.1 s.2.2.1 s.2.2.2) (apY a b c d s.2.1 s.2.2.1 s.2.2.2) (apZ a b c d s.2.1 s.2.2.1 s.2.2.2) cone
def bw (L : List St) (a b c d cone : Int) : Nat → List Int
 | 0 => []
 | k + 1 => if sB (stA L k) a b c d cone = true then bw L a b c d cone k ++ [(stA L k).1] else bw L a b c d cone k
def eb (L : List St) (a b c d cone : Int) : List Int := if (aV L && aA a b c d && (decide (0 ≤ cone) && decide (cone ≤ 100))) = true then bw L a b c d cone L.length else []
theorem lO (L : List St) (a b c d cone : Int) (k : Nat) : (bw L a b c d cone k).length ≤ k := by
 induction k with
 | zero => exact Nat.le_refl _
 | succ k ih =>
  unfold bw
  split
  ·simp; exact ih
  ·omega
abbrev lz (xs : List Int) : List Value := xs.map (Value.int .i64)
theorem vk : (Tryz.prog.info? 2).map (fun i => (i.zero, i.size, i.bytes)) = some (some (.int .i64 0), 1, 8) := by kernel_rfl
theorem World.ownsRow_weak {w : World} {B : Nat} {t : TypeId} {v : Value} {n m : Nat} {xs : List Value} (h : w.ownsRow (B + 1) t m v n xs) : w.ownsRow B t m v n xs := by
 obtain ⟨h1, h2⟩ := h
 refine ⟨h1, ?_⟩
 rcases h2 with h2 | ⟨g, cap, cur, e, hb, r⟩
 ·exact .inl h2
 ·exact .inr ⟨g, cap, cur, e, by omega, r⟩
theorem World.ownsRow_less {w : World} {B B' : Nat} {t : TypeId} {v : Value} {n m : Nat} {xs : List Value} (h : w.ownsRow B t m v n xs) (hb : B' ≤ B) : w.ownsRow B' t m v n xs := by
 obtain ⟨h1, h2⟩ := h
 refine ⟨h1, ?_⟩
 rcases h2 with h2 | ⟨g, cap, cur, e, hg, r⟩
 ·exact .inl h2
 ·exact .inr ⟨g, cap, cur, e, by omega, r⟩
theorem uA {B : Nat} {w w1 w2 : World} {v : Value} {t : TypeId} {n m : Nat} {xs : List Value} (h : Below B w w1) (hB : B ≤ w1.heap.size) (ho : w1.ownsRow B t m v n xs) (hg : w1.grownBy w2 v.ownBlock) : Below B w w2 :=
 h.trans ⟨hg.os, hg.tape, hg.output, hg.size, fun k hk => hg.block k (by omega) (fun e => by have := (ho.lt k e.symm).1; omega)⟩
theorem ya (x y z cone : Int) (w : World) :
  Calls Tryz.prog 152 #[.agg #[.int .i64 x, .int .i64 y, .int .i64 z], .int .i64 cone] w fun e w' => e = .returned (.bool (lj x y z cone)) ∧ Below w.heap.size w w' := by
 have cQ := yz (fun W => lB x y z W)
 have HC : Hid (lj x y z cone = (decide (0 < z) && decide (wrap64 (wrap64 (cone * cone) * bx x y z x y z) ≤ wrap64 (wrap64 (10000 * z) * z)))) := yz rfl
 generalize bx x y z x y z = dd at cQ HC
 obtain ⟨m1, hm1⟩ : ∃ m, wrap64 (10000 * z) = m := ⟨_, rfl⟩
 obtain ⟨m2, hm2⟩ : ∃ m, wrap64 (m1 * z) = m := ⟨_, rfl⟩
 obtain ⟨m3, hm3⟩ : ∃ m, wrap64 (cone * cone) = m := ⟨_, rfl⟩
 obtain ⟨m4, hm4⟩ : ∃ m, wrap64 (m3 * dd) = m := ⟨_, rfl⟩
 rw [hm1, hm2, hm3, hm4] at HC
 have hB := an w (.cells #[.int .i64 x, .int .i64 y, .int .i64 z] 58)
 have hV := aF w x y z 58
 go_enter Tryz.func152, Tryz.ntmps152
 go_wp2_with fail
 generalize w.alloc (.cells #[.int .i64 x, .int .i64 y, .int .i64 z] 58) = W at hB hV ⊢
 have HB := yz hB
 obtain ⟨v0, v1, v2⟩ := hV
 have r0 := cell_regrown v0
 have r1 := cell_regrown v1
 have r2 := cell_regrown v2
 clear hB v0 v1 v2
 by_cases hz : 0 < z
 ·have HC2 : Hid (lj x y z cone = decide (m4 ≤ m2)) := yz (by rw [yy HC]; simp [hz])
  clear HC
  refine wp_region_quiet_below (by kernel_rfl) (by kernel_rfl) ?_
  repeat (go_big_quiet_step (first | (with_reducible exact Calls.regrown_of (yy cQ _))))
  refine wpQuiet_nil ?_
  intro _ hw'
  obtain ⟨⟨dq, osq⟩, hw''⟩ := hw'
  subst hw''
  have hx := ak (yy HB) (below_regrown W dq osq)
  go_wp2_with fail
  go_ret
  exact ⟨by rw [yy HC2]; rfl, hx⟩
 ·have hz' : decide (0 < z) = false := by simpa using hz
  have HC2 : Hid (lj x y z cone = false) := yz (by rw [yy HC, hz']; rfl)
  clear HC
  refine wp_region_quiet_below (by kernel_rfl) (by kernel_rfl) ?_
  repeat (go_big_quiet_step (first | (with_reducible exact Calls.regrown_of (yy cQ _))))
  refine wpQuiet_nil ?_
  intro _ hw'
  obtain ⟨⟨dq, osq⟩, hw''⟩ := hw'
  subst hw''
  have hx := ak (yy HB) (below_regrown W dq osq)
  go_wp2_with fail
  go_ret
  exact ⟨by rw [yy HC2]; rfl, hx⟩
def ni (L : List St) (id : Int) (k : Nat) : Prop := ∀ j, j < k → (stA L j).1 ≠ id
def atV (L : List St) (n : Nat) (id : Int) : Int × Int × Int := match (List.range n).find? (fun j => decide ((stA L j).1 = id)) with | none => (0, 0, 0) | some j => (stA L j).2
theorem oC {L : List St} {n : Nat} {id : Int} (h : ni L id n) : atV L n id = (0, 0, 0) := by
 unfold atV
 have : (List.range n).find? (fun j => decide ((stA L j).1 = id)) = none := by
  rw [List.find?_eq_none]
  intro j hj
  simp [h j (List.mem_range.1 hj)]
 rw [this]
theorem wM {L : List St} {n k : Nat} {id : Int} (hk : k < n) (h : ni L id k) (h1 : (stA L k).1 = id) : atV L n id = (stA L k).2 := by
 unfold atV
 have : (List.range n).find? (fun j => decide ((stA L j).1 = id)) = some k := by
  rw [List.find?_range_eq_some]
  exact ⟨by simp [h1], List.mem_range.2 hk, fun j hj => by simp [h j hj]⟩
 rw [this]
theorem sn {L : List St} {k : Nat} {id : Int} (h : ni L id k) (h1 : (stA L k).1 ≠ id) : ni L id (k + 1) := by
 intro j hj
 by_cases e : j = k
 ·rw [e]; exact h1
 ·exact h j (by omega)
def oS (L : List St) (id : Int) : Int × Int × Int := if aV L = true then atV L L.length id else (0, 0, 0)
def sR (v : Int × Int × Int) : Value := .agg #[.int .i64 v.1, .int .i64 v.2.1, .int .i64 v.2.2]
theorem nH (L : List St) (n : Nat) (id : Int) (a : Option Addr) (c : Nat) (w : World) (hn : n ≤ 1048576) (hS : aR w a L n) :
  Calls Tryz.prog 42 #[.slice a n c, .int .i64 id] w fun e w' => e = .returned (sR (atV L n id)) ∧ Below w.heap.size w w' := by
 rcases hS with rfl | ⟨b, o, rfl, hb, hc⟩
 ·have HO : Hid (atV L 0 id = (0, 0, 0)) := yz (oC (fun j hj => absurd hj (Nat.not_lt_zero _)))
  go_enter Tryz.func42, Tryz.ntmps42
  go_wp2_with fail
  refine wp_loop_rounds 1 ?_
  rw [rounds_succ]
  go_wp2_with fail
  exact bodyPost_ret (v := .agg #[.int .i64 0, .int .i64 0, .int .i64 0]) (by simp [results, Tryz.results42, go_sem]) rfl ⟨by rw [yy HO]; rfl, an _ _⟩
 go_enter Tryz.func42, Tryz.ntmps42
 go_wp2_with fail
 have hv := aF w 0 0 0 58
 have hf := eC w 0 0 0 58
 have hB := an w (.cells #[.int .i64 0, .int .i64 0, .int .i64 0] 58)
 generalize w.alloc (.cells #[.int .i64 0, .int .i64 0, .int .i64 0] 58) = W at hv hf hB ⊢
 have HC : Hid (∀ i, i < n → mW W b (o + i * 4) (stA L i)) := yz (fun i hi => (hc i hi).kept hb hB)
 have HB := yz hB
 clear hc hB
 obtain ⟨v0, v1, v2⟩ := hv
 obtain ⟨f0, f1, f2⟩ := hf
 go_loop [5] (fun i => ∃ k : Nat, k ≤ n ∧ i = .int .i64 k ∧ Hid (ni L id k)) (fun i => n - (intOf i).toNat)
 case atStart => exact ⟨0, by omega, rfl, yz (fun j hj => absurd hj (Nat.not_lt_zero _))⟩
 case round =>
  obtain ⟨k, hk, rfl, HF⟩ := hrel
  by_cases hkn : k < n
  ·obtain ⟨⟨s1, s2, s3, s4⟩, hs⟩ : ∃ s, stA L k = s := ⟨_, rfl⟩
   have hst := (yy HC) k hkn
   rw [hs] at hst
   obtain ⟨c0, c1, c2, c3⟩ := hst
   have HT := yz hs
   clear hs
   by_cases hq : s1 = id
   ·have HO : Hid (atV L n id = (s2, s3, s4)) := yz (by rw [wM hkn (yy HF) (by rw [yy HT]; exact hq), yy HT])
    have hq' : (s1 == id) = true := by simp [hq]
    clear hq
    go_wp2_with fail
    exact bodyPost_ret (v := .agg #[.int .i64 s2, .int .i64 s3, .int .i64 s4]) (by simp [results, Tryz.results42, go_sem, v0, v1, v2]) rfl ⟨by rw [yy HO]; rfl, bI (yy HB) (Nat.le_refl _) _ _ _⟩
   ·have HF2 := yz (sn (yy HF) (by rw [yy HT]; exact hq))
    have hq' : (s1 == id) = false := by simp [hq]
    clear hq
    go_wp2_with fail
    go_round
    case rel => exact ⟨k + 1, by omega, by go_num, HF2⟩
    case measure => simp [intOf]; omega
  ·have hkn' : k = n := by omega
   subst hkn'
   have HO := yz (oC (yy HF))
   go_wp2_with fail
   exact bodyPost_ret (v := .agg #[.int .i64 0, .int .i64 0, .int .i64 0]) (by simp [results, Tryz.results42, go_sem, v0, v1, v2]) rfl ⟨by rw [yy HO]; rfl, bI (yy HB) (Nat.le_refl _) _ _ _⟩
theorem pz (L : List St) (id : Int) (a : Option Addr) (c : Nat) (p : Addr) (w : World) (hn : L.length ≤ 1048576) (hcap : L.length ≤ c) (hc9 : c ≤ 9223372036854775807) (hS : aR w a L L.length) (hE : bu p w) :
  Calls Tryz.prog 132 #[.slice a L.length c, .int .i64 id] w fun e w' => e = .returned (sR (oS L id)) ∧ Below w.heap.size w w' := by
 have cS := yz (fun (W : World) hW hE => eO L a c p W hn hcap hc9 hW hE)
 have HS := yz hS
 have HE := yz hE
 clear hS hE
 have HV := yz (show oS L id = if aV L = true then atV L L.length id else (0, 0, 0) from rfl)
 generalize L.length = n at *
 have V0 := yz (aF w 0 0 0 58)
 have F0 := yz (eC w 0 0 0 58)
 have B0 := yz (an w (.cells #[.int .i64 0, .int .i64 0, .int .i64 0] 58))
 go_enter Tryz.func132, Tryz.ntmps132
 go_wp2_with fail
 refine (yy cS _ ((yy HS).kept (yy B0)) ((yy HE).kept (yy B0))).mono ?_
 rintro e w1 ⟨rfl, hx⟩
 have HB := yz (ak (yy B0) hx)
 have V1 := yz ((yy V0).kept (by simp) hx)
 have F1 := yz ((yy F0).kept (by simp) hx)
 clear hx V0 F0 B0
 cases hk : aV L
 ·rw [hk] at HV
  obtain ⟨v0, v1, v2⟩ := yy V1
  obtain ⟨f0, f1, f2⟩ := yy F1
  clear hk
  go_wp2_with fail
  exact bodyPost_ret (v := .agg #[.int .i64 0, .int .i64 0, .int .i64 0]) (by simp [results, Tryz.results132, go_sem, v0, v1, v2]) rfl ⟨by rw [yy HV]; rfl, bI (yy HB) (Nat.le_refl _) _ _ _⟩
 rw [hk] at HV
 have HV' : Hid (oS L id = atV L n id) := yz (by rw [yy HV]; rfl)
 clear hk HV
 rcases yy HS with rfl | ⟨b, o, rfl, hb, hc⟩
 ·have HO : Hid (atV L 0 id = (0, 0, 0)) := yz (oC (fun j hj => absurd hj (Nat.not_lt_zero _)))
  obtain ⟨v0, v1, v2⟩ := yy V1
  obtain ⟨f0, f1, f2⟩ := yy F1
  go_wp2_with fail
  refine wp_loop_rounds 1 ?_
  rw [rounds_succ]
  go_wp2_with fail
  exact bodyPost_ret (v := .agg #[.int .i64 0, .int .i64 0, .int .i64 0]) (by simp [results, Tryz.results132, go_sem, v0, v1, v2]) rfl ⟨by rw [yy HV', yy HO]; rfl, bI (yy HB) (Nat.le_refl _) _ _ _⟩
 have HC := yz hc
 clear hc
 go_wp2_with fail
 go_loopw [13] (fun i wr => ∃ k : Nat, k ≤ n ∧ i = .int .i64 k ∧ Hid (ni L id k) ∧ Hid (Below w.heap.size w wr) ∧ Hid (aG wr w.heap.size 0 0 0) ∧ Hid (eS wr w.heap.size)) (fun i _ => n - (intOf i).toNat)
 case atStart => exact ⟨0, by omega, rfl, yz (fun j hj => absurd hj (Nat.not_lt_zero _)), HB, V1, F1⟩
 case round =>
  clear HB V1 F1
  obtain ⟨k, hk, rfl, HF, HB, V1, F1⟩ := hrel
  by_cases hkn : k < n
  ·obtain ⟨⟨s1, s2, s3, s4⟩, hs⟩ : ∃ s, stA L k = s := ⟨_, rfl⟩
   have hst := ((yy HC) k hkn).kept hb (yy HB)
   rw [hs] at hst
   obtain ⟨c0, c1, c2, c3⟩ := hst
   have HT := yz hs
   clear hs
   have B2 := yz ((yy HB).alloc (yy HB).size (.cells #[.int .i64 s1, .int .i64 s2, .int .i64 s3, .int .i64 s4] 60))
   have V2 := yz ((yy V1).kept (vlt (yy V1)) (an wr (.cells #[.int .i64 s1, .int .i64 s2, .int .i64 s3, .int .i64 s4] 60)))
   have F2 := yz ((yy F1).kept (vlt (yy V1)) (an wr (.cells #[.int .i64 s1, .int .i64 s2, .int .i64 s3, .int .i64 s4] 60)))
   obtain ⟨v0, v1, v2⟩ := yy V2
   obtain ⟨f0, f1, f2⟩ := yy F2
   by_cases hq : s1 = id
   ·have HO : Hid (atV L n id = (s2, s3, s4)) := yz (by rw [wM hkn (yy HF) (by rw [yy HT]; exact hq), yy HT])
    have hq' : (s1 == id) = true := by simp [hq]
    clear hq
    go_wp2_with fail
    exact bodyPost_ret (v := .agg #[.int .i64 s2, .int .i64 s3, .int .i64 s4]) (by simp [results, Tryz.results132, go_sem, v0, v1, v2]) rfl ⟨by rw [yy HV', yy HO]; rfl, bI (yy B2) (Nat.le_refl _) _ _ _⟩
   ·have HF2 := yz (sn (yy HF) (by rw [yy HT]; exact hq))
    have hq' : (s1 == id) = false := by simp [hq]
    clear hq
    go_wp2_with fail
    go_roundw
    case rel => exact ⟨k + 1, by omega, by go_num, HF2, B2, V2, F2⟩
    case measure => simp [intOf]; omega
  ·have hkn' : k = n := by omega
   subst hkn'
   have HO := yz (oC (yy HF))
   obtain ⟨v0, v1, v2⟩ := yy V1
   obtain ⟨f0, f1, f2⟩ := yy F1
   go_wp2_with fail
   exact bodyPost_ret (v := .agg #[.int .i64 0, .int .i64 0, .int .i64 0]) (by simp [results, Tryz.results132, go_sem, v0, v1, v2]) rfl ⟨by rw [yy HV', yy HO]; rfl, bI (yy HB) (Nat.le_refl _) _ _ _⟩
abbrev V3 := Int × Int × Int
def wV (w : World) (b : Nat) (x y : Int) : Prop := w.cell? ⟨b, 0, none⟩ = some (.int .i64 x) ∧ w.cell? ⟨b, 1, none⟩ = some (.int .i64 y)
theorem wV.kept {w w' : World} {b : Nat} {x y : Int} (h : wV w b x y) (hB : Below w.heap.size w w') : wV w' b x y := by
 have hb := World.block_lt_of_cell? w _ h.1
 exact ⟨by rw [hB.cell (p := ⟨b, 0, none⟩) hb]; exact h.1, by rw [hB.cell (p := ⟨b, 1, none⟩) hb]; exact h.2⟩
end
section
open Go.RowKit
theorem aG.lt' {w : World} {b : Nat} {x y z : Int} (h : aG w b x y z) : b < w.heap.size := World.block_lt_of_cell? w _ h.1
theorem AF {w1 wx wn : World} {X : Prop} (hx : Below wx.heap.size wx wn) (h : X ∧ Below w1.heap.size w1 wx) : Below w1.heap.size w1 wn := ak h.2 hx
def AB (w : World) (b : Nat) : Prop := aG w b 0 0 0 ∧ eS w b
theorem Eg {wy wn : World} {t : TypeId} (hx : Below (wy.alloc (.cells #[.int .i64 0, .int .i64 0, .int .i64 0] t)).heap.size (wy.alloc (.cells #[.int .i64 0, .int .i64 0, .int .i64 0] t)) wn) : AB wn wy.heap.size :=
 ⟨(aF wy 0 0 0 t).kept (by simp) hx, (eC wy 0 0 0 t).kept (by simp) hx⟩
theorem CP {wy wn : World} {t : TypeId} (hx : Below ((wy.alloc (.cells #[.int .i64 0, .int .i64 0, .int .i64 0] t)).drew).heap.size ((wy.alloc (.cells #[.int .i64 0, .int .i64 0, .int .i64 0] t)).drew) wn) : AB wn wy.heap.size :=
 ⟨(show aG (wy.alloc (.cells #[.int .i64 0, .int .i64 0, .int .i64 0] t)).drew wy.heap.size 0 0 0 from aF wy 0 0 0 t).kept (by simp) hx, (show eS (wy.alloc (.cells #[.int .i64 0, .int .i64 0, .int .i64 0] t)).drew wy.heap.size from eC wy 0 0 0 t).kept (by simp) hx⟩
theorem CO {wx wn : World} {b : Nat} (h : AB wx b) (hx : Below wx.heap.size wx wn) : AB wn b := ⟨h.1.kept (aG.lt' h.1) hx, h.2.kept (aG.lt' h.1) hx⟩
theorem pR {w1 wx : World} (h : Below w1.heap.size w1 wx) (o : Obj) : Below w1.heap.size w1 (wx.alloc o) := h.alloc h.size _
theorem xH {w : World} {b : Nat} (h : AB w b) (x y z : Int) : aG (((w.setCell ⟨b, 0, none⟩ (.int .i64 x)).setCell ⟨b, 1, none⟩ (.int .i64 y)).setCell ⟨b, 2, none⟩ (.int .i64 z)) b x y z := by
 obtain ⟨⟨h0, h1, h2⟩, _⟩ := h
 refine ⟨?_, ?_, ?_⟩ <;> simp [go_sem, h0, h1, h2]
theorem vx {w1 wx : World} {b : Nat} (h : Below w1.heap.size w1 wx) (hb : w1.heap.size ≤ b) (x y z : Value) : Below w1.heap.size w1 (((wx.setCell ⟨b, 0, none⟩ x).setCell ⟨b, 1, none⟩ y).setCell ⟨b, 2, none⟩ z) := ((h.setCell hb _).setCell hb _).setCell hb _
theorem zq {w1 wx : World} {X : Prop} (h : X ∧ Below w1.heap.size w1 wx) (o : Obj) : Below w1.heap.size w1 (wx.alloc o) := h.2.alloc h.2.size _
theorem Bu {w1 wx : World} {X : Prop} {b : Nat} (h : X ∧ Below w1.heap.size w1 wx) (hb : w1.heap.size ≤ b) (x y z : Value) : Below w1.heap.size w1 (((wx.setCell ⟨b, 0, none⟩ x).setCell ⟨b, 1, none⟩ y).setCell ⟨b, 2, none⟩ z) := ((h.2.setCell hb _).setCell hb _).setCell hb _
end
section
open Go.RowKit Go.Sort
abbrev P2 := Int × Int
end
section
open Go.RowKit
end
end Go.Proofs.YtlleafjdgblhcaaGreatDoor
