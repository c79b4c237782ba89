/- Several texts in one: ModM, TurnO, TurnD, TurnE, TurnG, ModA, RowF, MarkS, ModC, RowR, ModD, ModE, ModG, AppO, ModH, ModB, ModJ, FrC, BlA, SpA, SpB. -/
import Derived.OwnWalk
import Derived.Laws.OwnMore
import Derived.Deep.RegionHeld
import Derived.Deep.DeepCutAuto
import Derived.Laws.BytesArg
import Derived.BigRegion
import Derived.Test.YtdchjcadhlkpfaaGreatDoorQFnTopOwn1
import Derived.Test.YtdchjcadhlkpfaaGreatDoorQFnTopOwn2
import Derived.Test.YtdchjcadhlkpfaaGreatDoorQFnTopOwn3
import Derived.Test.YtdchjcadhlkpfaaGreatDoorQFnTopOwn4
namespace Go.Proofs.YtdchjcadhlkpfaaGreatDoor
set_option linter.unusedVariables false
set_option linter.unusedSimpArgs false
set_option maxRecDepth 100000
set_option maxHeartbeats 8000000
section
structure Tk where
 L : List St
 lim : Int
 mode : Int
 A : Int
 B : Int
 C : Int
 D : Int
 coast : Int
 fr : Int
def bP (lo hi x : Int) : Bool := decide (lo ≤ x) && decide (x ≤ hi)
def eI (t : Tk) : Bool :=
 if t.mode = 0 then eqT t.A t.B t.C t.D 0 0 0 0 && decide (t.coast = 0)
 else if t.mode = 1 then az t.A t.B t.C t.D && decide (t.coast = 0)
 else if t.mode = 2 then az t.A t.B t.C t.D && bP 1 t.lim t.coast
 else false
def iq (t : Tk) : Bool := be t.L && bP 1 5 t.lim && bP 0 1000000 t.fr
def ax (t : Tk) : Bool := iq t && eI t
theorem iw {lo hi x : Int} (h1 : lo ≤ x) (h2 : x ≤ hi) : bP lo hi x = true := by unfold bP; rw [decide_eq_true h1, decide_eq_true h2]; rfl
theorem ke {lo hi x : Int} (h : ¬ lo ≤ x) : bP lo hi x = false := by unfold bP; rw [decide_eq_false h]; rfl
theorem lS {lo hi x : Int} (h : ¬ x ≤ hi) : bP lo hi x = false := by unfold bP; rw [decide_eq_false h]; simp
theorem iz {lo hi x : Int} : bP lo hi x = true ↔ lo ≤ x ∧ x ≤ hi := by unfold bP; simp
theorem iF {t : Tk} (h : be t.L = false) : ax t = false := by unfold ax iq; rw [h]; rfl
theorem iL {t : Tk} (h : bP 1 5 t.lim = false) : ax t = false := by unfold ax iq; rw [h]; simp
theorem iP {t : Tk} (h : bP 0 1000000 t.fr = false) : ax t = false := by unfold ax iq; rw [h]; simp
theorem kP {t : Tk} (h1 : be t.L = true) (h2 : bP 1 5 t.lim = true) (h3 : bP 0 1000000 t.fr = true) : ax t = eI t := by unfold ax iq; rw [h1, h2, h3]; rfl
theorem tu {t : Tk} (h : t.mode = 0) : eI t = (eqT t.A t.B t.C t.D 0 0 0 0 && decide (t.coast = 0)) := by unfold eI; rw [if_pos h]
theorem gz {t : Tk} (h : t.mode = 1) : eI t = (az t.A t.B t.C t.D && decide (t.coast = 0)) := by unfold eI; rw [if_neg (by omega), if_pos h]
theorem iE {t : Tk} (h : t.mode = 2) : eI t = (az t.A t.B t.C t.D && bP 1 t.lim t.coast) := by unfold eI; rw [if_neg (by omega), if_neg (by omega), if_pos h]
theorem kK {t : Tk} (h0 : t.mode ≠ 0) (h1 : t.mode ≠ 1) (h2 : t.mode ≠ 2) : eI t = false := by unfold eI; rw [if_neg h0, if_neg h1, if_neg h2]
theorem ra {t : Tk} (h : ax t = true) : be t.L = true := by
 cases hq : be t.L
 ·rw [iF hq] at h; cases h
 ·rfl
theorem sz {t : Tk} (h : ax t = true) : 0 ≤ t.fr ∧ t.fr ≤ 1000000 := by
 cases hq : bP 0 1000000 t.fr
 ·rw [iP hq] at h; cases h
 ·exact iz.1 hq
theorem fj {t : Tk} (h : ax t = true) : eI t = true := by unfold ax at h; rw [Bool.and_eq_true] at h; exact h.2
theorem ku {t : Tk} (h : ax t = true) (h0 : t.mode ≠ 0) : az t.A t.B t.C t.D = true := by
 have hm := fj h
 by_cases h1 : t.mode = 1
 ·rw [gz h1, Bool.and_eq_true] at hm; exact hm.1
 ·by_cases h2 : t.mode = 2
  ·rw [iE h2, Bool.and_eq_true] at hm; exact hm.1
  ·rw [kK h0 h1 h2] at hm; cases hm
def nw (t : Tk) : Tk := { t with mode := 0, A := 0, B := 0, C := 0, D := 0, coast := 0 }
def dT : Tk := ⟨[], 0, 0, 0, 0, 0, 0, 0, 0⟩
end
section
open Go.RowKit
def fz (w : World) (b : Nat) (p q r s k : Int) : Prop := w.cell? ⟨b, 0, none⟩ = some (.int .i64 p) ∧ w.cell? ⟨b, 1, none⟩ = some (.int .i64 q) ∧ w.cell? ⟨b, 2, none⟩ = some (.int .i64 r) ∧ w.cell? ⟨b, 3, none⟩ = some (.int .i64 s) ∧ w.cell? ⟨b, 4, none⟩ = some (.int .i64 k)
def kU (w : World) (b : Nat) : Prop := w.frozen? ⟨b, 0, none⟩ = false ∧ w.frozen? ⟨b, 1, none⟩ = false ∧ w.frozen? ⟨b, 2, none⟩ = false ∧ w.frozen? ⟨b, 3, none⟩ = false ∧ w.frozen? ⟨b, 4, none⟩ = false
theorem fz.lt {w : World} {b : Nat} {p q r s k : Int} (h : fz w b p q r s k) : b < w.heap.size := World.block_lt_of_cell? w _ h.1
theorem fz.kept {w w' : World} {b : Nat} {p q r s k : Int} (h : fz w b p q r s k) (hB : Below w.heap.size w w') : fz w' b p q r s k := by
 have hb := h.lt
 obtain ⟨h0, h1, h2, h3, h4⟩ := h
 exact ⟨by rw [hB.cell (p := ⟨b, 0, none⟩) hb]; exact h0, by rw [hB.cell (p := ⟨b, 1, none⟩) hb]; exact h1, by rw [hB.cell (p := ⟨b, 2, none⟩) hb]; exact h2, by rw [hB.cell (p := ⟨b, 3, none⟩) hb]; exact h3, by rw [hB.cell (p := ⟨b, 4, none⟩) hb]; exact h4⟩
theorem kU.kept {w w' : World} {b : Nat} (h : kU w b) (hb : b < w.heap.size) (hB : Below w.heap.size w w') : kU w' b := by
 obtain ⟨h0, h1, h2, h3, h4⟩ := h
 exact ⟨by rw [hB.frozen (p := ⟨b, 0, none⟩) hb]; exact h0, by rw [hB.frozen (p := ⟨b, 1, none⟩) hb]; exact h1, by rw [hB.frozen (p := ⟨b, 2, none⟩) hb]; exact h2, by rw [hB.frozen (p := ⟨b, 3, none⟩) hb]; exact h3, by rw [hB.frozen (p := ⟨b, 4, none⟩) hb]; exact h4⟩
theorem ge (w : World) (p q r s k : Int) (t : TypeId) : fz (w.alloc (.cells #[.int .i64 p, .int .i64 q, .int .i64 r, .int .i64 s, .int .i64 k] t)) w.heap.size p q r s k := by
 refine ⟨?_, ?_, ?_, ?_, ?_⟩ <;> simp
theorem iH (w : World) (p q r s k : Int) (t : TypeId) : kU (w.alloc (.cells #[.int .i64 p, .int .i64 q, .int .i64 r, .int .i64 s, .int .i64 k] t)) w.heap.size := by
 refine ⟨?_, ?_, ?_, ?_, ?_⟩ <;> simp
theorem fz.alloc {w : World} {b : Nat} {p q r s k : Int} (h : fz w b p q r s k) (o : Obj) : fz (w.alloc o) b p q r s k := h.kept (an _ _)
end
section
open Go.RowKit Go.Sort
theorem qv {a b c d : Int} (h : (inT 1000 a b c d && !eT a b c d) = false) : Value.agg #[.int .i64 (ofP a b c d a), .int .i64 (ofP a b c d b), .int .i64 (ofP a b c d c), .int .i64 (ofP a b c d d), .int .i64 (ofC a b c d)] = Value.agg #[.int .i64 0, .int .i64 0, .int .i64 0, .int .i64 0, .int .i64 1] := by
 unfold ofP
 rw [tw h]
 rfl
theorem us {a b c d : Int} (h1 : inT 1000 a b c d = true) (h2 : eT a b c d = false) (h : az (a.tdiv (sT a b c d)) (b.tdiv (sT a b c d)) (c.tdiv (sT a b c d)) (d.tdiv (sT a b c d)) = false) : Value.agg #[.int .i64 (ofP a b c d a), .int .i64 (ofP a b c d b), .int .i64 (ofP a b c d c), .int .i64 (ofP a b c d d), .int .i64 (ofC a b c d)] = Value.agg #[.int .i64 0, .int .i64 0, .int .i64 0, .int .i64 0, .int .i64 9] := by
 have e : ofC a b c d = 9 := by unfold ofC; rw [h1, h2, h]; rfl
 unfold ofP
 rw [e]
 rfl
theorem wm {a b c d : Int} (h1 : inT 1000 a b c d = true) (h2 : eT a b c d = false) (h : az (a.tdiv (sT a b c d)) (b.tdiv (sT a b c d)) (c.tdiv (sT a b c d)) (d.tdiv (sT a b c d)) = true) : Value.agg #[.int .i64 (ofP a b c d a), .int .i64 (ofP a b c d b), .int .i64 (ofP a b c d c), .int .i64 (ofP a b c d d), .int .i64 (ofC a b c d)] = Value.agg #[.int .i64 (a.tdiv (sT a b c d)), .int .i64 (b.tdiv (sT a b c d)), .int .i64 (c.tdiv (sT a b c d)), .int .i64 (d.tdiv (sT a b c d)), .int .i64 0] := by
 have e : ofC a b c d = 0 := by unfold ofC; rw [h1, h2, h]; rfl
 unfold ofP
 rw [e]
 rfl
theorem ph (a b c d : Int) (w : World) :
  Calls Tryz.prog 139 #[.int .i64 a, .int .i64 b, .int .i64 c, .int .i64 d] w fun e w' => e = .returned (.agg #[.int .i64 (ofP a b c d a), .int .i64 (ofP a b c d b), .int .i64 (ofP a b c d c), .int .i64 (ofP a b c d d), .int .i64 (ofC a b c d)]) ∧ Below w.heap.size w w' := by
 have he := fun w => kf a b c d 0 0 0 0 w
 cases hz : eqT a b c d 0 0 0 0
 ·rw [hz] at he
  have HZ := yz (show eT a b c d = false from hz)
  clear hz
  go_enter Tryz.func139, Tryz.ntmps139
  go_wp2_with fail
  refine (fU 1000 a b c d _ (by omega) (by omega)).mono ?_
  rintro e w1 ⟨rfl, hB1⟩
  have vr : fz w1 w.heap.size 0 0 0 0 0 := ((ge w 0 0 0 0 0 _).alloc _).kept hB1
  have fr : kU w1 w.heap.size := ((iH w 0 0 0 0 0 _).kept (by simp) (an _ _)).kept (by simp; omega) hB1
  have va : aC w1 (w.heap.size + 1) a b c d := (by simpa using aM (w.alloc _) a b c d _ : aC _ (w.heap.size + 1) a b c d).kept (by simp) hB1
  have hB : Below w.heap.size w w1 := ak (aH _ _ _) hB1
  clear hB1 he
  cases hi : inT 1000 a b c d
  ·have HR := yz (qv (a := a) (b := b) (c := c) (d := d) (by rw [hi]; rfl))
   obtain ⟨cr0, cr1, cr2, cr3, cr4⟩ := vr
   obtain ⟨fr0, fr1, fr2, fr3, fr4⟩ := fr
   go_wp2_with fail
   exact bodyPost_ret (v := .agg #[.int .i64 0, .int .i64 0, .int .i64 0, .int .i64 0, .int .i64 1]) (by simp [results, Tryz.results139, go_sem, cr0, cr1, cr2, cr3, cr4]) rfl ⟨by rw [yy HR], bD hB (by omega) _ _ _ _ _⟩
  ·have hva := va
   obtain ⟨ca0, ca1, ca2, ca3⟩ := va
   go_wp2_with fail
   refine (jn a b c d _ hi (jp (yy HZ))).mono ?_
   rintro e w2 ⟨rfl, hB2⟩
   have hlt := vr.lt
   replace vr := vr.kept hB2
   replace fr := fr.kept hlt hB2
   replace hB := ak hB hB2
   clear hB2 hva ca0 ca1 ca2 ca3
   cases hr : az (a.tdiv (sT a b c d)) (b.tdiv (sT a b c d)) (c.tdiv (sT a b c d)) (d.tdiv (sT a b c d))
   ·have HR := yz (us hi (yy HZ) hr)
    generalize a.tdiv (sT a b c d) = p at hr ⊢
    generalize b.tdiv (sT a b c d) = q at hr ⊢
    generalize c.tdiv (sT a b c d) = r at hr ⊢
    generalize d.tdiv (sT a b c d) = s at hr ⊢
    have vr1 := vr.alloc (.cells #[.int .i64 p, .int .i64 q, .int .i64 r, .int .i64 s] 43)
    have fr1 := fr.kept vr.lt (an w2 (.cells #[.int .i64 p, .int .i64 q, .int .i64 r, .int .i64 s] 43))
    have hB1 := hB.alloc (Nat.le_of_lt (vr.lt)) (.cells #[.int .i64 p, .int .i64 q, .int .i64 r, .int .i64 s] 43)
    go_wp2_with fail
    refine (aK p q r s _).mono ?_
    rintro e w3 ⟨rfl, hB3⟩
    rw [hr]
    have hlt := vr1.lt
    replace vr := vr1.kept hB3
    replace fr := fr1.kept hlt hB3
    replace hB := ak hB1 hB3
    clear hB3 vr1 fr1 hB1
    obtain ⟨cr0, cr1, cr2, cr3, cr4⟩ := vr
    obtain ⟨fr0, fr1, fr2, fr3, fr4⟩ := fr
    go_wp2_with fail
    exact bodyPost_ret (v := .agg #[.int .i64 0, .int .i64 0, .int .i64 0, .int .i64 0, .int .i64 9]) (by simp [results, Tryz.results139, go_sem, cr0, cr1, cr2, cr3, cr4]) rfl ⟨by rw [yy HR], bD hB (by omega) _ _ _ _ _⟩
   ·have HR := yz (wm hi (yy HZ) hr)
    generalize a.tdiv (sT a b c d) = p at hr HR ⊢
    generalize b.tdiv (sT a b c d) = q at hr HR ⊢
    generalize c.tdiv (sT a b c d) = r at hr HR ⊢
    generalize d.tdiv (sT a b c d) = s at hr HR ⊢
    have vr1 := vr.alloc (.cells #[.int .i64 p, .int .i64 q, .int .i64 r, .int .i64 s] 43)
    have fr1 := fr.kept vr.lt (an w2 (.cells #[.int .i64 p, .int .i64 q, .int .i64 r, .int .i64 s] 43))
    have vt1 := aM w2 p q r s 43
    have hB1 := hB.alloc (Nat.le_of_lt (vr.lt)) (.cells #[.int .i64 p, .int .i64 q, .int .i64 r, .int .i64 s] 43)
    go_wp2_with fail
    refine (aK p q r s _).mono ?_
    rintro e w3 ⟨rfl, hB3⟩
    rw [hr]
    have hlt := vr1.lt
    replace vr := vr1.kept hB3
    replace fr := fr1.kept hlt hB3
    have vt := vt1.kept vt1.lt hB3
    replace hB := ak hB1 hB3
    clear hB3 vr1 fr1 hB1 vt1
    obtain ⟨cr0, cr1, cr2, cr3, cr4⟩ := vr
    obtain ⟨fr0, fr1, fr2, fr3, fr4⟩ := fr
    obtain ⟨ct0, ct1, ct2, ct3⟩ := vt
    go_wp2_with fail
    exact bodyPost_ret (v := .agg #[.int .i64 p, .int .i64 q, .int .i64 r, .int .i64 s, .int .i64 0]) (by simp [results, Tryz.results139, go_sem, cr0, cr1, cr2, cr3, cr4]) rfl ⟨by rw [yy HR], bD hB (by omega) _ _ _ _ _⟩
 ·rw [hz] at he
  have HR := yz (qv (a := a) (b := b) (c := c) (d := d) (by rw [show eT a b c d = true from hz]; simp))
  go_enter Tryz.func139, Tryz.ntmps139
  go_wp2_with fail
  exact bodyPost_ret (v := .agg #[.int .i64 0, .int .i64 0, .int .i64 0, .int .i64 0, .int .i64 1]) (by simp [results, Tryz.results139, go_sem]) rfl ⟨by rw [yy HR], aH _ _ _⟩
theorem qa {s1 s2 s3 s4 t1 t2 t3 t4 : Int} (h : coR s1 s2 s3 s4 t1 t2 t3 t4 = false) : Value.agg #[.int .i64 (coP s1 s2 s3 s4 t1 t2 t3 t4 (coA s1 s2 s3 s4 t1 t2 t3 t4)), .int .i64 (coP s1 s2 s3 s4 t1 t2 t3 t4 (coB s1 s2 s3 s4 t1 t2 t3 t4)), .int .i64 (coP s1 s2 s3 s4 t1 t2 t3 t4 (coC s1 s2 s3 s4 t1 t2 t3 t4)), .int .i64 (coP s1 s2 s3 s4 t1 t2 t3 t4 (coD s1 s2 s3 s4 t1 t2 t3 t4)), .int .i64 (coK s1 s2 s3 s4 t1 t2 t3 t4)] = Value.agg #[.int .i64 0, .int .i64 0, .int .i64 0, .int .i64 0, .int .i64 1] := by
 unfold coP coK
 rw [h]; rfl
theorem wg {s1 s2 s3 s4 t1 t2 t3 t4 : Int} (h : coR s1 s2 s3 s4 t1 t2 t3 t4 = true) : Value.agg #[.int .i64 (coP s1 s2 s3 s4 t1 t2 t3 t4 (coA s1 s2 s3 s4 t1 t2 t3 t4)), .int .i64 (coP s1 s2 s3 s4 t1 t2 t3 t4 (coB s1 s2 s3 s4 t1 t2 t3 t4)), .int .i64 (coP s1 s2 s3 s4 t1 t2 t3 t4 (coC s1 s2 s3 s4 t1 t2 t3 t4)), .int .i64 (coP s1 s2 s3 s4 t1 t2 t3 t4 (coD s1 s2 s3 s4 t1 t2 t3 t4)), .int .i64 (coK s1 s2 s3 s4 t1 t2 t3 t4)] = Value.agg #[.int .i64 (ofP (coA s1 s2 s3 s4 t1 t2 t3 t4) (coB s1 s2 s3 s4 t1 t2 t3 t4) (coC s1 s2 s3 s4 t1 t2 t3 t4) (coD s1 s2 s3 s4 t1 t2 t3 t4) (coA s1 s2 s3 s4 t1 t2 t3 t4)), .int .i64 (ofP (coA s1 s2 s3 s4 t1 t2 t3 t4) (coB s1 s2 s3 s4 t1 t2 t3 t4) (coC s1 s2 s3 s4 t1 t2 t3 t4) (coD s1 s2 s3 s4 t1 t2 t3 t4) (coB s1 s2 s3 s4 t1 t2 t3 t4)), .int .i64 (ofP (coA s1 s2 s3 s4 t1 t2 t3 t4) (coB s1 s2 s3 s4 t1 t2 t3 t4) (coC s1 s2 s3 s4 t1 t2 t3 t4) (coD s1 s2 s3 s4 t1 t2 t3 t4) (coC s1 s2 s3 s4 t1 t2 t3 t4)), .int .i64 (ofP (coA s1 s2 s3 s4 t1 t2 t3 t4) (coB s1 s2 s3 s4 t1 t2 t3 t4) (coC s1 s2 s3 s4 t1 t2 t3 t4) (coD s1 s2 s3 s4 t1 t2 t3 t4) (coD s1 s2 s3 s4 t1 t2 t3 t4)), .int .i64 (ofC (coA s1 s2 s3 s4 t1 t2 t3 t4) (coB s1 s2 s3 s4 t1 t2 t3 t4) (coC s1 s2 s3 s4 t1 t2 t3 t4) (coD s1 s2 s3 s4 t1 t2 t3 t4))] := by
 unfold coP coK
 rw [h]; rfl
theorem qW (s1 s2 s3 s4 t1 t2 t3 t4 : Int) (w : World) (hs : inT 5 s1 s2 s3 s4 = true) (ht : inT 5 t1 t2 t3 t4 = true) :
  Calls Tryz.prog 138 #[.agg #[.int .i64 s1, .int .i64 s2, .int .i64 s3, .int .i64 s4], .agg #[.int .i64 t1, .int .i64 t2, .int .i64 t3, .int .i64 t4]] w fun e w' => e = .returned (.agg #[.int .i64 (coA s1 s2 s3 s4 t1 t2 t3 t4), .int .i64 (coB s1 s2 s3 s4 t1 t2 t3 t4), .int .i64 (coC s1 s2 s3 s4 t1 t2 t3 t4), .int .i64 (coD s1 s2 s3 s4 t1 t2 t3 t4)]) ∧ Below w.heap.size w w' := by
 have HA := yz (wi hs ht).1
 have HB := yz (wu hs ht).1
 have HC := yz (wl hs ht).1
 have HD := yz (ww hs ht).1
 clear hs ht
 go_enter Tryz.func138, Tryz.ntmps138
 go_wp2
 rw [yy HA, yy HB, yy HC, yy HD]
 exact bodyPost_ret (v := .agg #[.int .i64 (coA s1 s2 s3 s4 t1 t2 t3 t4), .int .i64 (coB s1 s2 s3 s4 t1 t2 t3 t4), .int .i64 (coC s1 s2 s3 s4 t1 t2 t3 t4), .int .i64 (coD s1 s2 s3 s4 t1 t2 t3 t4)]) (by simp [results, Tryz.results138, go_sem]) rfl ⟨rfl, dQ _ _ _ _⟩
theorem nO (s1 s2 s3 s4 t1 t2 t3 t4 : Int) (w : World) :
  Calls Tryz.prog 112 #[.agg #[.int .i64 s1, .int .i64 s2, .int .i64 s3, .int .i64 s4], .agg #[.int .i64 t1, .int .i64 t2, .int .i64 t3, .int .i64 t4]] w fun e w' => e = .returned (.agg #[.int .i64 (coP s1 s2 s3 s4 t1 t2 t3 t4 (coA s1 s2 s3 s4 t1 t2 t3 t4)), .int .i64 (coP s1 s2 s3 s4 t1 t2 t3 t4 (coB s1 s2 s3 s4 t1 t2 t3 t4)), .int .i64 (coP s1 s2 s3 s4 t1 t2 t3 t4 (coC s1 s2 s3 s4 t1 t2 t3 t4)), .int .i64 (coP s1 s2 s3 s4 t1 t2 t3 t4 (coD s1 s2 s3 s4 t1 t2 t3 t4)), .int .i64 (coK s1 s2 s3 s4 t1 t2 t3 t4)]) ∧ Below w.heap.size w w' := by
 go_enter Tryz.func112, Tryz.ntmps112
 go_wp2_with fail
 refine (aK s1 s2 s3 s4 _).mono ?_
 rintro e w1 ⟨rfl, hx⟩
 have va : aC w1 w.heap.size s1 s2 s3 s4 := (((aM w s1 s2 s3 s4 _).alloc _).alloc _).kept (by simp; omega) hx
 have vb : aC w1 (w.heap.size + 1) t1 t2 t3 t4 := ((by simpa using aM (w.alloc _) t1 t2 t3 t4 _ : aC _ (w.heap.size + 1) t1 t2 t3 t4).alloc _).kept (by simp) hx
 have vr : fz w1 (w.heap.size + 1 + 1) 0 0 0 0 0 := (by simpa using ge ((w.alloc _).alloc _) 0 0 0 0 0 _ : fz _ (w.heap.size + 1 + 1) 0 0 0 0 0).kept hx
 have fr : kU w1 (w.heap.size + 1 + 1) := (by simpa using iH ((w.alloc _).alloc _) 0 0 0 0 0 _ : kU _ (w.heap.size + 1 + 1)).kept (by simp) hx
 have hB : Below w.heap.size w w1 := ak (dQ _ _ _ _) hx
 clear hx
 cases h1 : az s1 s2 s3 s4
 ·have HR := yz (qa (s1 := s1) (s2 := s2) (s3 := s3) (s4 := s4) (t1 := t1) (t2 := t2) (t3 := t3) (t4 := t4) (by rw [coR, h1]; rfl))
  obtain ⟨cr0, cr1, cr2, cr3, cr4⟩ := vr
  obtain ⟨fr0, fr1, fr2, fr3, fr4⟩ := fr
  go_wp2_with fail
  exact bodyPost_ret (v := .agg #[.int .i64 0, .int .i64 0, .int .i64 0, .int .i64 0, .int .i64 1]) (by simp [results, Tryz.results112, go_sem, cr0, cr1, cr2, cr3, cr4]) rfl ⟨by rw [yy HR], bD hB (by omega) _ _ _ _ _⟩
 ·have wa := va
  have wb := vb
  obtain ⟨ca0, ca1, ca2, ca3⟩ := wa
  obtain ⟨cb0, cb1, cb2, cb3⟩ := wb
  go_wp2_with fail
  clear ca0 ca1 ca2 ca3 cb0 cb1 cb2 cb3
  refine (aK t1 t2 t3 t4 _).mono ?_
  rintro e w2 ⟨rfl, hx⟩
  have hlt := vr.lt
  replace va := va.kept va.lt hx
  replace vb := vb.kept vb.lt hx
  replace vr := vr.kept hx
  replace fr := fr.kept hlt hx
  replace hB := ak hB hx
  clear hx hlt
  cases h2 : az t1 t2 t3 t4
  ·have HR := yz (qa (s1 := s1) (s2 := s2) (s3 := s3) (s4 := s4) (t1 := t1) (t2 := t2) (t3 := t3) (t4 := t4) (by rw [coR, h1, h2]; rfl))
   obtain ⟨cr0, cr1, cr2, cr3, cr4⟩ := vr
   obtain ⟨fr0, fr1, fr2, fr3, fr4⟩ := fr
   go_wp2_with fail
   exact bodyPost_ret (v := .agg #[.int .i64 0, .int .i64 0, .int .i64 0, .int .i64 0, .int .i64 1]) (by simp [results, Tryz.results112, go_sem, cr0, cr1, cr2, cr3, cr4]) rfl ⟨by rw [yy HR], bD hB (by omega) _ _ _ _ _⟩
  ·have wa := va
   have wb := vb
   obtain ⟨ca0, ca1, ca2, ca3⟩ := wa
   obtain ⟨cb0, cb1, cb2, cb3⟩ := wb
   go_wp2_with fail
   clear ca0 ca1 ca2 ca3 cb0 cb1 cb2 cb3
   have HR := yz (wg (s1 := s1) (s2 := s2) (s3 := s3) (s4 := s4) (t1 := t1) (t2 := t2) (t3 := t3) (t4 := t4) (by rw [coR, h1, h2]; rfl))
   refine (qW s1 s2 s3 s4 t1 t2 t3 t4 _ (bU.1 h1).1 (bU.1 h2).1).mono ?_
   rintro e w3 ⟨rfl, hx⟩
   have hlt := vr.lt
   replace vr := (vr.kept hx).alloc (.cells #[.int .i64 (coA s1 s2 s3 s4 t1 t2 t3 t4), .int .i64 (coB s1 s2 s3 s4 t1 t2 t3 t4), .int .i64 (coC s1 s2 s3 s4 t1 t2 t3 t4), .int .i64 (coD s1 s2 s3 s4 t1 t2 t3 t4)] 43)
   replace fr := (fr.kept hlt hx).kept (Nat.lt_of_lt_of_le hlt hx.size) (an _ (.cells #[.int .i64 (coA s1 s2 s3 s4 t1 t2 t3 t4), .int .i64 (coB s1 s2 s3 s4 t1 t2 t3 t4), .int .i64 (coC s1 s2 s3 s4 t1 t2 t3 t4), .int .i64 (coD s1 s2 s3 s4 t1 t2 t3 t4)] 43))
   replace hB := (ak hB hx).alloc (ak hB hx).size (.cells #[.int .i64 (coA s1 s2 s3 s4 t1 t2 t3 t4), .int .i64 (coB s1 s2 s3 s4 t1 t2 t3 t4), .int .i64 (coC s1 s2 s3 s4 t1 t2 t3 t4), .int .i64 (coD s1 s2 s3 s4 t1 t2 t3 t4)] 43)
   clear hx hlt va vb
   go_wp2_with fail
   refine (ph _ _ _ _ _).mono ?_
   rintro e w4 ⟨rfl, hx⟩
   have hlt := vr.lt
   replace vr := vr.kept hx
   replace fr := fr.kept hlt hx
   replace hB := ak hB hx
   clear hx hlt
   obtain ⟨cr0, cr1, cr2, cr3, cr4⟩ := vr
   obtain ⟨fr0, fr1, fr2, fr3, fr4⟩ := fr
   go_wp2_with fail
   exact bodyPost_ret (v := .agg #[.int .i64 (ofP (coA s1 s2 s3 s4 t1 t2 t3 t4) (coB s1 s2 s3 s4 t1 t2 t3 t4) (coC s1 s2 s3 s4 t1 t2 t3 t4) (coD s1 s2 s3 s4 t1 t2 t3 t4) (coA s1 s2 s3 s4 t1 t2 t3 t4)), .int .i64 (ofP (coA s1 s2 s3 s4 t1 t2 t3 t4) (coB s1 s2 s3 s4 t1 t2 t3 t4) (coC s1 s2 s3 s4 t1 t2 t3 t4) (coD s1 s2 s3 s4 t1 t2 t3 t4) (coB s1 s2 s3 s4 t1 t2 t3 t4)), .int .i64 (ofP (coA s1 s2 s3 s4 t1 t2 t3 t4) (coB s1 s2 s3 s4 t1 t2 t3 t4) (coC s1 s2 s3 s4 t1 t2 t3 t4) (coD s1 s2 s3 s4 t1 t2 t3 t4) (coC s1 s2 s3 s4 t1 t2 t3 t4)), .int .i64 (ofP (coA s1 s2 s3 s4 t1 t2 t3 t4) (coB s1 s2 s3 s4 t1 t2 t3 t4) (coC s1 s2 s3 s4 t1 t2 t3 t4) (coD s1 s2 s3 s4 t1 t2 t3 t4) (coD s1 s2 s3 s4 t1 t2 t3 t4)), .int .i64 (ofC (coA s1 s2 s3 s4 t1 t2 t3 t4) (coB s1 s2 s3 s4 t1 t2 t3 t4) (coC s1 s2 s3 s4 t1 t2 t3 t4) (coD s1 s2 s3 s4 t1 t2 t3 t4))]) (by simp [results, Tryz.results112, go_sem, cr0, cr1, cr2, cr3, cr4]) rfl ⟨by rw [yy HR], bD hB (by omega) _ _ _ _ _⟩
def bN (w : World) (b : Nat) (v : Value) (lim mode A B C D coast fr : Int) : Prop := w.cell? ⟨b, 0, none⟩ = some v ∧ w.cell? ⟨b, 1, none⟩ = some (.int .i64 lim) ∧ w.cell? ⟨b, 2, none⟩ = some (.int .i64 mode) ∧ w.cell? ⟨b, 3, none⟩ = some (.int .i64 A) ∧ w.cell? ⟨b, 4, none⟩ = some (.int .i64 B) ∧ w.cell? ⟨b, 5, none⟩ = some (.int .i64 C) ∧ w.cell? ⟨b, 6, none⟩ = some (.int .i64 D) ∧ w.cell? ⟨b, 7, none⟩ = some (.int .i64 coast) ∧ w.cell? ⟨b, 8, none⟩ = some (.int .i64 fr)
theorem gn {w w' : World} {a : Addr} {v : Value} (h : w.cell? a = some v) (hB : Below w.heap.size w w') : w'.cell? a = some v := (hB.cell (World.block_lt_of_cell? w a h)).trans h
theorem bN.kept {w w' : World} {b : Nat} {v : Value} {lim mode A B C D coast fr : Int} (h : bN w b v lim mode A B C D coast fr) (hB : Below w.heap.size w w') : bN w' b v lim mode A B C D coast fr := by
 obtain ⟨h0, h1, h2, h3, h4, h5, h6, h7, h8⟩ := h
 exact ⟨gn h0 hB, gn h1 hB, gn h2 hB, gn h3 hB, gn h4 hB, gn h5 hB, gn h6 hB, gn h7 hB, gn h8 hB⟩
theorem dJ (w : World) (v : Value) (lim mode A B C D coast fr : Int) (t : TypeId) : bN (w.alloc (.cells #[v, .int .i64 lim, .int .i64 mode, .int .i64 A, .int .i64 B, .int .i64 C, .int .i64 D, .int .i64 coast, .int .i64 fr] t)) w.heap.size v lim mode A B C D coast fr := by
 refine ⟨?_, ?_, ?_, ?_, ?_, ?_, ?_, ?_, ?_⟩ <;> simp
theorem bN.lt {w : World} {b : Nat} {v : Value} {lim mode A B C D coast fr : Int} (h : bN w b v lim mode A B C D coast fr) : b < w.heap.size := World.block_lt_of_cell? w _ h.1
theorem dC (L : List St) (lim mode A B C D coast fr : Int) (a : Option Addr) (c : Nat) (p : Addr) (w : World) (hn : L.length ≤ 1048576) (hcap : L.length ≤ c) (hc9 : c ≤ 9223372036854775807) (hS : aL w a L L.length) (hE : aW p w) :
  Calls Tryz.prog 67 #[.agg #[.slice a L.length c, .int .i64 lim, .int .i64 mode, .int .i64 A, .int .i64 B, .int .i64 C, .int .i64 D, .int .i64 coast, .int .i64 fr]] w fun e w' => e = .returned (.bool (ax ⟨L, lim, mode, A, B, C, D, coast, fr⟩)) ∧ Below w.heap.size w w' := by
 have B0 := an w (.cells #[.slice a L.length c, .int .i64 lim, .int .i64 mode, .int .i64 A, .int .i64 B, .int .i64 C, .int .i64 D, .int .i64 coast, .int .i64 fr] 45)
 have T0 := dJ w (.slice a L.length c) lim mode A B C D coast fr 45
 have cS := yz (bY L a c p _ hn hcap hc9 (hS.kept B0) (hE.kept B0))
 have HB0 := yz B0
 have HT0 := yz T0
 clear B0 T0 hS hE hn hcap hc9
 go_enter Tryz.func67, Tryz.ntmps67
 go_wp2_with fail
 refine (yy cS).mono ?_
 rintro e w1 ⟨rfl, hx⟩
 have T1 := yz ((yy HT0).kept hx)
 have B1 := yz (ak (yy HB0) hx)
 clear hx cS HT0 HB0
 obtain ⟨c0, c1, c2, c3, c4, c5, c6, c7, c8⟩ := yy T1
 cases hk : be L
 ·have HO := yz (iF (t := ⟨L, lim, mode, A, B, C, D, coast, fr⟩) hk)
  go_wp2_with fail
  go_ret
  exact ⟨by rw [yy HO]; rfl, yy B1⟩
 by_cases q1 : lim < 1
 ·have HO := yz (iL (t := ⟨L, lim, mode, A, B, C, D, coast, fr⟩) (ke (by show ¬ 1 ≤ lim; omega)))
  go_wp2_with fail
  go_ret
  exact ⟨by rw [yy HO]; rfl, yy B1⟩
 by_cases q2 : (5 : Int) < lim
 ·have HO := yz (iL (t := ⟨L, lim, mode, A, B, C, D, coast, fr⟩) (lS (by show ¬ lim ≤ 5; omega)))
  go_wp2_with fail
  go_ret
  exact ⟨by rw [yy HO]; rfl, yy B1⟩
 by_cases q3 : fr < 0
 ·have HO := yz (iP (t := ⟨L, lim, mode, A, B, C, D, coast, fr⟩) (ke (by show ¬ 0 ≤ fr; omega)))
  go_wp2_with fail
  go_ret
  exact ⟨by rw [yy HO]; rfl, yy B1⟩
 by_cases q4 : (1000000 : Int) < fr
 ·have HO := yz (iP (t := ⟨L, lim, mode, A, B, C, D, coast, fr⟩) (lS (by show ¬ fr ≤ 1000000; omega)))
  go_wp2_with fail
  go_ret
  exact ⟨by rw [yy HO]; rfl, yy B1⟩
 have HH := yz (kP (t := ⟨L, lim, mode, A, B, C, D, coast, fr⟩) hk (iw (by show 1 ≤ lim; omega) (by show lim ≤ 5; omega)) (iw (by show 0 ≤ fr; omega) (by show fr ≤ 1000000; omega)))
 clear hk
 by_cases m0 : mode = 0
 ·have HO : Hid (ax ⟨L, lim, mode, A, B, C, D, coast, fr⟩ = (eqT A B C D 0 0 0 0 && decide (coast = 0))) := yz (by rw [yy HH, tu m0])
  have hq := fun W => kf A B C D 0 0 0 0 W
  cases hz : eqT A B C D 0 0 0 0
  ·rw [hz] at HO hq
   go_wp2_with fail
   go_ret
   exact ⟨by rw [yy HO]; rfl, yy B1⟩
  ·rw [hz] at HO hq
   go_wp2_with fail
   go_ret
   exact ⟨by rw [yy HO]; rfl, yy B1⟩
 by_cases m1 : mode = 1
 ·have HO : Hid (ax ⟨L, lim, mode, A, B, C, D, coast, fr⟩ = (az A B C D && decide (coast = 0))) := yz (by rw [yy HH, gz m1])
  subst m1
  go_wp2_with fail
  refine (aK A B C D _).mono ?_
  rintro e w2 ⟨rfl, hx⟩
  have B2 := yz (ak (yy B1) hx)
  obtain ⟨d0, d1, d2, d3, d4, d5, d6, d7, d8⟩ := (yy T1).kept hx
  clear hx c0 c1 c2 c3 c4 c5 c6 c7 c8
  cases hz : az A B C D
  ·rw [hz] at HO
   go_wp2_with fail
   go_ret
   exact ⟨by rw [yy HO]; rfl, yy B2⟩
  ·rw [hz] at HO
   go_wp2_with fail
   go_ret
   exact ⟨by rw [yy HO]; rfl, yy B2⟩
 by_cases m2 : mode = 2
 ·have HO : Hid (ax ⟨L, lim, mode, A, B, C, D, coast, fr⟩ = (az A B C D && bP 1 lim coast)) := yz (by rw [yy HH, iE m2])
  subst m2
  go_wp2_with fail
  refine (aK A B C D _).mono ?_
  rintro e w2 ⟨rfl, hx⟩
  have B2 := yz (ak (yy B1) hx)
  obtain ⟨d0, d1, d2, d3, d4, d5, d6, d7, d8⟩ := (yy T1).kept hx
  clear hx c0 c1 c2 c3 c4 c5 c6 c7 c8
  cases hz : az A B C D
  ·rw [hz] at HO
   go_wp2_with fail
   go_ret
   exact ⟨by rw [yy HO]; rfl, yy B2⟩
  ·rw [hz] at HO
   by_cases u1 : 1 ≤ coast
   ·have HU : Hid (bP 1 lim coast = decide (coast ≤ lim)) := yz (by unfold bP; rw [decide_eq_true u1]; rfl)
    go_wp2_with fail
    go_ret
    exact ⟨by rw [yy HO, yy HU]; rfl, yy B2⟩
   ·have HU : Hid (bP 1 lim coast = false) := yz (ke u1)
    go_wp2_with fail
    go_ret
    exact ⟨by rw [yy HO, yy HU]; rfl, yy B2⟩
 ·have HO : Hid (ax ⟨L, lim, mode, A, B, C, D, coast, fr⟩ = false) := yz (by rw [yy HH, kK m0 m1 m2])
  go_wp2_with fail
  go_ret
  exact ⟨by rw [yy HO]; rfl, yy B1⟩
end
section
open Go.RowKit
def cb (w : World) (t : TypeId) (g m : Nat) (f : Nat → Int) : Prop := ∃ cur : Array Value, w.heap[g]? = some (.cells cur t (0, 0)) ∧ ∀ j, j < m → cur[j]? = some (.int .i64 (f j))
theorem cb.lt {w : World} {t : TypeId} {g m : Nat} {f : Nat → Int} (h : cb w t g m f) : g < w.heap.size := by
 obtain ⟨cur, hc, _⟩ := h
 exact (Array.getElem?_eq_some_iff.1 hc).1
theorem cb.same {w w' : World} {t : TypeId} {g m : Nat} {f : Nat → Int} (h : cb w t g m f) (e : w'.heap[g]? = w.heap[g]?) : cb w' t g m f := by
 obtain ⟨cur, hc, hs⟩ := h
 exact ⟨cur, by rw [e]; exact hc, hs⟩
theorem cb.kept {w w' : World} {t : TypeId} {g m : Nat} {f : Nat → Int} (h : cb w t g m f) (hB : Below w.heap.size w w') : cb w' t g m f := h.same (hB.block g h.lt)
theorem cb.congr {w : World} {t : TypeId} {g m : Nat} {f f' : Nat → Int} (h : cb w t g m f) (e : ∀ j, j < m → f j = f' j) : cb w t g m f' := by
 obtain ⟨cur, hc, hs⟩ := h
 exact ⟨cur, hc, fun j hj => by rw [hs j hj, e j hj]⟩
theorem cb.cell {w : World} {t : TypeId} {g m j : Nat} {f : Nat → Int} (h : cb w t g m f) (hj : j < m) : w.cell? ⟨g, j, none⟩ = some (.int .i64 (f j)) := by
 obtain ⟨cur, hc, hs⟩ := h
 rw [cell_of_row w g j cur t _ hc]
 exact hs j hj
theorem cb.free {w : World} {t : TypeId} {g m : Nat} {f : Nat → Int} (h : cb w t g m f) (j : Nat) : w.frozen? ⟨g, j, none⟩ = false := by
 obtain ⟨cur, hc, _⟩ := h
 exact frozen_of_row w g j cur t hc
theorem cb.set {w : World} {t : TypeId} {g m : Nat} {f : Nat → Int} (h : cb w t g m f) (i : Nat) (v : Int) : cb (w.setCell ⟨g, i, none⟩ (.int .i64 v)) t g m (fun j => if j = i then v else f j) := by
 obtain ⟨cur, hc, hs⟩ := h
 refine ⟨_, heap_setCell_same w g i cur t (.int .i64 v) hc, fun j hj => ?_⟩
 have := hs j hj
 rw [Array.getElem?_setIfInBounds]
 by_cases e : i = j
 ·subst e
  simp [(Array.getElem?_eq_some_iff.1 this).1]
 ·have e' : ¬ j = i := fun h => e (Eq.symm h)
  simp [e, e', this]
theorem gm (w : World) (row : Option Nat) : w.grownBy w row := ⟨rfl, rfl, rfl, Nat.le_refl _, fun _ _ _ => rfl⟩
theorem gM {w w1 : World} {g : Nat} (h : w.grownBy w1 (some g)) (i : Nat) (v : Value) : w.grownBy (w1.setCell ⟨g, i, none⟩ v) (some g) :=
 ⟨h.os, h.tape, h.output, by simpa [World.setCell] using h.size, fun k hk hne => by rw [Below.heap_setCell _ _ _ _ (fun e => hne (by rw [e]))]; exact h.block k hk hne⟩
end
section
open Go.RowKit Go.Sort
def oF (w : World) (a : Option Addr) (n : Nat) (row : Option Nat) : Prop := (n = 0 ∧ row = none) ∨ ∃ g f, a = some ⟨g, 0, none⟩ ∧ row = some g ∧ cb w 74 g (n * 4) f
def Mkd (w : World) (a : Option Addr) (n : Nat) (row : Option Nat) : Prop := (n = 0 ∧ row = none) ∨ ∃ g, a = some ⟨g, 0, none⟩ ∧ row = some g ∧ cb w 74 g (n * 4) (fun j => 1 + (j : Int))
theorem oF.kept {w w' : World} {a : Option Addr} {n : Nat} {row : Option Nat} (h : oF w a n row) (hB : Below w.heap.size w w') : oF w' a n row := by
 rcases h with h | ⟨g, f, h1, h2, h3⟩
 ·exact .inl h
 ·exact .inr ⟨g, f, h1, h2, h3.kept hB⟩
theorem Mkd.kept {w w' : World} {a : Option Addr} {n : Nat} {row : Option Nat} (h : Mkd w a n row) (hB : Below w.heap.size w w') : Mkd w' a n row := by
 rcases h with h | ⟨g, h1, h2, h3⟩
 ·exact .inl h
 ·exact .inr ⟨g, h1, h2, h3.kept hB⟩
theorem oF.lt {w : World} {a : Option Addr} {n : Nat} {row : Option Nat} (h : oF w a n row) {g : Nat} (e : row = some g) : g < w.heap.size := by
 rcases h with ⟨_, h⟩ | ⟨g', f, h1, h2, h3⟩
 ·rw [h] at e; cases e
 ·rw [h2] at e; obtain rfl := Option.some.inj e; exact h3.lt
theorem oN {B : Nat} {w w1 w2 : World} {row : Option Nat} (h : Below B w w1) (hg : w1.grownBy w2 row) (hB : B ≤ w1.heap.size) (hr : ∀ g, row = some g → B ≤ g) : Below B w w2 :=
 h.trans ⟨hg.os, hg.tape, hg.output, hg.size, fun k hk => hg.block k (by omega) (fun e => by have := hr k e.symm; omega)⟩
def bA (L : List St) : List Value := L.flatMap stC
theorem gL (L : List St) : (bA L).length = L.length * 4 := by
 unfold bA
 induction L with
 | nil => rfl
 | cons x l ih => simp [List.flatMap_cons, stC] at *; omega
theorem je (L : List St) : ∀ (i : Nat), i < L.length → (bA L)[i * 4]? = some (.int .i64 (stA L i).1) ∧ (bA L)[i * 4 + 1]? = some (.int .i64 (stA L i).2.1) ∧ (bA L)[i * 4 + 2]? = some (.int .i64 (stA L i).2.2.1) ∧ (bA L)[i * 4 + 3]? = some (.int .i64 (stA L i).2.2.2) := by
 induction L with
 | nil => intro i hi; simp at hi
 | cons x l ih =>
  intro i hi
  match i with
  | 0 => exact ⟨rfl, rfl, rfl, rfl⟩
  | i + 1 =>
   have h := ih i (by simpa using hi)
   have e : ∀ r, (bA (x :: l))[(i + 1) * 4 + r]? = (bA l)[i * 4 + r]? := fun r => by
    rw [show (i + 1) * 4 + r = (i * 4 + r) + 4 by omega]
    rfl
   have e2 : stA (x :: l) (i + 1) = stA l i := rfl
   rw [e2]
   exact ⟨by have := e 0; simp only [Nat.add_zero] at this; rw [this]; exact h.1, by rw [e 1]; exact h.2.1, by rw [e 2]; exact h.2.2.1, by rw [e 3]; exact h.2.2.2⟩
theorem iY {w : World} {B : Nat} {v : Value} {L : List St} (h : w.ownsRow B 74 4 v L.length (bA L)) : ∃ a cap, v = .slice a L.length cap ∧ L.length ≤ cap ∧ cap ≤ maxLen ∧ aL w a L L.length := by
 rcases h.2 with ⟨h1, h0⟩ | ⟨g, cap, cur, hv, hb, hg, hnc, hcm, hcs, htake⟩
 ·exact ⟨none, 0, by rw [h1, h0], by omega, Nat.zero_le _, .inl h0⟩
 ·refine ⟨_, cap, hv, hnc, hcm, .inr ⟨g, 0, rfl, (Array.getElem?_eq_some_iff.1 hg).1, fun i hi => ?_⟩⟩
  have hc : ∀ j, j < L.length * 4 → w.cell? ⟨g, j, none⟩ = (bA L)[j]? := fun j hj => by
   rw [cell_of_row w g j cur _ _ hg, ← htake, List.getElem?_take, if_pos hj]
   simp
  obtain ⟨e0, e1, e2, e3⟩ := je L i hi
  rw [Nat.zero_add]
  exact ⟨by rw [hc _ (by omega)]; exact e0, by rw [hc _ (by omega)]; exact e1, by rw [hc _ (by omega)]; exact e2, by rw [hc _ (by omega)]; exact e3⟩
theorem ko (L : List St) (j : Nat) (hj : j < L.length * 4) : ∃ z, (bA L)[j]? = some (.int .i64 z) := by
 obtain ⟨e0, e1, e2, e3⟩ := je L (j / 4) (by omega)
 have h : j = j / 4 * 4 ∨ j = j / 4 * 4 + 1 ∨ j = j / 4 * 4 + 2 ∨ j = j / 4 * 4 + 3 := by omega
 rcases h with h | h | h | h
 ·rw [h]; exact ⟨_, e0⟩
 ·rw [h]; exact ⟨_, e1⟩
 ·rw [h]; exact ⟨_, e2⟩
 ·rw [h]; exact ⟨_, e3⟩
theorem uf {w : World} {B : Nat} {v : Value} {L : List St} {a : Option Addr} {cap : Nat} (h : w.ownsRow B 74 4 v L.length (bA L)) (hv : v = .slice a L.length cap) : ∃ row, oF w a L.length row ∧ ∀ g, row = some g → B ≤ g := by
 rcases h.2 with ⟨h1, h0⟩ | ⟨g, cap', cur, hv', hb, hg, hnc, hcm, hcs, htake⟩
 ·exact ⟨none, .inl ⟨h0, rfl⟩, fun g e => by cases e⟩
 ·rw [hv] at hv'
  injection hv' with e1 e2 e3
  refine ⟨some g, .inr ⟨g, fun j => if h : j < L.length * 4 then Classical.choose (ko L j h) else 0, e1, rfl, cur, hg, fun j hj => ?_⟩, fun g' e => by obtain rfl := Option.some.inj e; exact hb⟩
  have e4 : cur[j]? = (bA L)[j]? := by
   rw [← htake, List.getElem?_take, if_pos hj]
   simp
  rw [e4]
  simp only [hj, dif_pos]
  exact Classical.choose_spec (ko L j hj)
def dU (w : World) (b : Nat) : Prop := ∀ i, w.frozen? ⟨b, i, none⟩ = false
theorem dU.kept {w w' : World} {b : Nat} (h : dU w b) (hb : b < w.heap.size) (hB : Below w.heap.size w w') : dU w' b := fun i => (hB.frozen (p := ⟨b, i, none⟩) hb).trans (h i)
theorem ea (w : World) (cs : Array Value) (t : TypeId) : dU (w.alloc (.cells cs t)) w.heap.size := fun i => by simp
theorem dU.set {w : World} {b : Nat} (h : dU w b) (p : Addr) (v : Value) : dU (w.setCell p v) b := fun i => by rw [World.frozen?_setCell]; exact h i
theorem hP.far {w : World} {b n k : Nat} {L : List St} (h : hP w b n L k) {b' : Nat} (hne : b ≠ b') (o : Nat) (x : Value) : hP (w.setCell ⟨b', o, none⟩ x) b n L k := by
 obtain ⟨cur, hc, r⟩ := h
 exact ⟨cur, by rw [Below.heap_setCell w ⟨b', o, none⟩ x b hne]; exact hc, r⟩
theorem bN.far {w : World} {b : Nat} {v : Value} {lim mode A B C D coast fr : Int} (h : bN w b v lim mode A B C D coast fr) {b' : Nat} (hne : b ≠ b') (o : Nat) (x : Value) : bN (w.setCell ⟨b', o, none⟩ x) b v lim mode A B C D coast fr := by
 obtain ⟨h0, h1, h2, h3, h4, h5, h6, h7, h8⟩ := h
 refine ⟨?_, ?_, ?_, ?_, ?_, ?_, ?_, ?_, ?_⟩ <;> (rw [World.cell?_setCell_far _ _ _ _ (Ne.symm hne)]; assumption)
theorem bH {w : World} {b : Nat} {u : Value} {lim0 mode0 A0 B0 C0 D0 coast0 fr0 : Int} (h : bN w b u lim0 mode0 A0 B0 C0 D0 coast0 fr0) (v : Value) (lim mode A B C D coast fr : Int) : bN (((((((((w.setCell ⟨b, 0, none⟩ v).setCell ⟨b, 1, none⟩ (.int .i64 lim)).setCell ⟨b, 2, none⟩ (.int .i64 mode)).setCell ⟨b, 3, none⟩ (.int .i64 A)).setCell ⟨b, 4, none⟩ (.int .i64 B)).setCell ⟨b, 5, none⟩ (.int .i64 C)).setCell ⟨b, 6, none⟩ (.int .i64 D)).setCell ⟨b, 7, none⟩ (.int .i64 coast)).setCell ⟨b, 8, none⟩ (.int .i64 fr)) b v lim mode A B C D coast fr := by
 obtain ⟨h0, h1, h2, h3, h4, h5, h6, h7, h8⟩ := h
 refine ⟨?_, ?_, ?_, ?_, ?_, ?_, ?_, ?_, ?_⟩ <;> simp [go_sem, h0, h1, h2, h3, h4, h5, h6, h7, h8]
theorem aO {B : Nat} {w w1 : World} (h : Below B w w1) {b : Nat} (hb : B ≤ b) (o : Nat) (v : Value) : Below B w (w1.setCell ⟨b, o, none⟩ v) := h.setCell hb v
def TkO (w : World) (b : Nat) (v : Value) (lim mode A B C D coast fr code : Int) : Prop := bN w b v lim mode A B C D coast fr ∧ w.cell? ⟨b, 9, none⟩ = some (.int .i64 code)
theorem TkO.kept {w w' : World} {b : Nat} {v : Value} {lim mode A B C D coast fr code : Int} (h : TkO w b v lim mode A B C D coast fr code) (hB : Below w.heap.size w w') : TkO w' b v lim mode A B C D coast fr code := ⟨h.1.kept hB, gn h.2 hB⟩
theorem mv (w : World) (v : Value) (lim mode A B C D coast fr code : Int) (t : TypeId) : TkO (w.alloc (.cells #[v, .int .i64 lim, .int .i64 mode, .int .i64 A, .int .i64 B, .int .i64 C, .int .i64 D, .int .i64 coast, .int .i64 fr, .int .i64 code] t)) w.heap.size v lim mode A B C D coast fr code := by
 refine ⟨⟨?_, ?_, ?_, ?_, ?_, ?_, ?_, ?_, ?_⟩, ?_⟩ <;> simp
theorem gp {w w' : World} {a : Addr} {v : Value} {row : Option Nat} (h : w.cell? a = some v) (hg : w.grownBy w' row) (hne : some a.block ≠ row) : w'.cell? a = some v := (World.cell?_of_block (hg.block a.block (World.block_lt_of_cell? w a h) hne)).trans h
theorem bN.grown {w w' : World} {b : Nat} {v : Value} {lim mode A B C D coast fr : Int} {row : Option Nat} (h : bN w b v lim mode A B C D coast fr) (hg : w.grownBy w' row) (hne : some b ≠ row) : bN w' b v lim mode A B C D coast fr := by
 obtain ⟨h0, h1, h2, h3, h4, h5, h6, h7, h8⟩ := h
 exact ⟨gp h0 hg hne, gp h1 hg hne, gp h2 hg hne, gp h3 hg hne, gp h4 hg hne, gp h5 hg hne, gp h6 hg hne, gp h7 hg hne, gp h8 hg hne⟩
theorem TkO.grown {w w' : World} {b : Nat} {v : Value} {lim mode A B C D coast fr code : Int} {row : Option Nat} (h : TkO w b v lim mode A B C D coast fr code) (hg : w.grownBy w' row) (hne : some b ≠ row) : TkO w' b v lim mode A B C D coast fr code := ⟨h.1.grown hg hne, gp h.2 hg hne⟩
theorem pw {L : List St} {u : Value} (h : u ∈ bA L) : u.oneCell' = true := by
 unfold bA at h
 rw [List.mem_flatMap] at h
 obtain ⟨s, _, hs⟩ := h
 simp [stC] at hs
 rcases hs with rfl | rfl | rfl | rfl <;> rfl
theorem nP {w : World} {b o : Nat} {L : List St} (h : aL w (some ⟨b, o, none⟩) L L.length) (j : Nat) (u : Value) (hj : (bA L)[j]? = some u) : w.cell? ((⟨b, o, none⟩ : Addr).add j) = some u := by
 have hlt : j < L.length * 4 := by
  have := (List.getElem?_eq_some_iff.1 hj).1
  rw [gL] at this
  exact this
 have hA : (⟨b, o, none⟩ : Addr).add j = ⟨b, o + j, none⟩ := by unfold Addr.add; split <;> simp_all
 rw [hA]
 rcases h with h | ⟨b', o', e, _, hc⟩
 ·omega
 ·simp only [Option.some.injEq, Addr.mk.injEq, and_true] at e
  obtain ⟨rfl, rfl⟩ := e
  obtain ⟨e0, e1, e2, e3⟩ := je L (j / 4) (by omega)
  obtain ⟨c0, c1, c2, c3⟩ := hc (j / 4) (by omega)
  have h4 : j = j / 4 * 4 ∨ j = j / 4 * 4 + 1 ∨ j = j / 4 * 4 + 2 ∨ j = j / 4 * 4 + 3 := by omega
  rcases h4 with h4 | h4 | h4 | h4
  ·rw [h4, e0] at hj; rw [h4, c0]; exact hj
  ·rw [h4, e1] at hj; rw [h4, ← Nat.add_assoc, c1]; exact hj
  ·rw [h4, e2] at hj; rw [h4, ← Nat.add_assoc, c2]; exact hj
  ·rw [h4, e3] at hj; rw [h4, ← Nat.add_assoc, c3]; exact hj
def ay (w : World) (B : Nat) (L : List St) (a : Option Addr) (cap : Nat) : Prop := w.ownsRow B 74 4 (.slice a L.length cap) L.length (bA L)
theorem ay.stars {w : World} {B : Nat} {L : List St} {a : Option Addr} {cap : Nat} (h : ay w B L a cap) : aL w a L L.length := by
 obtain ⟨a', c', e, _, _, hs⟩ := iY h
 injection e with e1 e2 e3
 subst e1
 exact hs
theorem ay.row {w : World} {B : Nat} {L : List St} {a : Option Addr} {cap : Nat} (h : ay w B L a cap) : ∃ row, oF w a L.length row ∧ ∀ g, row = some g → B ≤ g := uf h rfl
theorem ay.capMax {w : World} {B : Nat} {L : List St} {a : Option Addr} {cap : Nat} (h : ay w B L a cap) : L.length ≤ cap ∧ cap ≤ maxLen := by
 obtain ⟨a', c', e, h1, h2, _⟩ := iY h
 injection e with e1 e2 e3
 subst e3
 exact ⟨h1, h2⟩
theorem ay.kept {w w' : World} {B : Nat} {L : List St} {a : Option Addr} {cap : Nat} (h : ay w B L a cap) (hB : Below w.heap.size w w') : ay w' B L a cap := by
 obtain ⟨h1, h2⟩ := h
 refine ⟨h1, ?_⟩
 rcases h2 with h2 | ⟨g, c', cur, e, hg, hh, r⟩
 ·exact .inl h2
 ·exact .inr ⟨g, c', cur, e, hg, by rw [hB.block g (Array.getElem?_eq_some_iff.1 hh).1]; exact hh, r⟩
theorem ay.low {w : World} {B B' : Nat} {L : List St} {a : Option Addr} {cap : Nat} (h : ay w B L a cap) (hb : B' ≤ B) : ay w B' L a cap := by
 obtain ⟨h1, h2⟩ := h
 refine ⟨h1, ?_⟩
 rcases h2 with h2 | ⟨g, c', cur, e, hg, r⟩
 ·exact .inl h2
 ·exact .inr ⟨g, c', cur, e, by omega, r⟩
theorem oB {w : World} {B : Nat} {L : List St} {v : Value} (h : w.ownsRow B 74 4 v L.length (bA L)) : ∃ a cap, v = .slice a L.length cap ∧ ay w B L a cap := by
 obtain ⟨a, cap, e, _⟩ := iY h
 exact ⟨a, cap, e, by unfold ay; rw [← e]; exact h⟩
theorem dU.grown {w w' : World} {b : Nat} {row : Option Nat} (h : dU w b) (hb : b < w.heap.size) (hg : w.grownBy w' row) (hne : some b ≠ row) : dU w' b := fun i => by
 have h1 := h i
 unfold World.frozen? at h1 ⊢
 rw [hg.block b hb hne]
 exact h1
theorem ay.far {w : World} {B : Nat} {L : List St} {a : Option Addr} {cap : Nat} (h : ay w B L a cap) {b : Nat} (hne : b < B) (o : Nat) (x : Value) : ay (w.setCell ⟨b, o, none⟩ x) B L a cap := by
 obtain ⟨h1, h2⟩ := h
 refine ⟨h1, ?_⟩
 rcases h2 with h2 | ⟨g, c', cur, e, hg, hh, r⟩
 ·exact .inl h2
 ·exact .inr ⟨g, c', cur, e, hg, by rw [Below.heap_setCell w ⟨b, o, none⟩ x g (by show g ≠ b; omega)]; exact hh, r⟩
end
section
open Go.RowKit Go.Sort
theorem jC {P : Program} (w : World) (t ty e : TypeId) (i : TypeInfo) (ht : P.underlying t = some (.slice e)) (hi : P.info? e = some i) (a : Option Addr) (n cap c : Nat) (hc : n ≤ cap) :
  (Builtin.append_ #[t, t] ty #[.slice a n cap, .slice none 0 c]).run P w = .ok (.slice a n cap) w := by
 cases a <;> simp [Builtin.append_, run_underlying ht, sizeOf, typeInfo, hi, Builtin.lenOf, Builtin.firstCells, loadCells, storeCells, hc]
theorem vC {w : World} {B n m : Nat} {t : TypeId} {v : Value} {xs : List Value} (h : w.ownsRow B t m v n xs) : ∃ a cap, v = .slice a n cap ∧ n ≤ cap := by
 rcases h.2 with ⟨h1, h0⟩ | ⟨g, c', cur, e, _, _, h3, _⟩
 ·exact ⟨none, 0, by rw [h1, h0], by omega⟩
 ·exact ⟨_, _, e, h3⟩
theorem jW {P : Program} (w : World) {o : Oper} {a : Act} {K : Act → World → Prop} {Q : Exit → Act → World → Prop} (s x : Operand) (t : TypeId)
  (ho : o.op = .call { callee := .builtin .append, args := #[s, x], argTypes := #[t, t] })
  (base : Nat) (e : TypeId) (i : TypeInfo) (z : Value) (size bytes : Nat) (ht : P.underlying t = some (.slice e)) (hi : P.info? e = some i) (hz : i.zero = some z)
  (hsize : i.size = size) (hby : i.bytes = bytes) (hzs : z.cells.size = size) (hsz : 0 < size)
  (v : Value) (n : Nat) (xs : List Value) (hs : a.eval s = v) (hown : w.ownsRow base e size v n xs)
  (ao : Option Addr) (m c : Nat) (news : List Value) (hx : a.eval x = .slice ao m c) (hl : news.length = m * size) (h0 : ao = none → m = 0) (hnews : ∀ ad, ao = some ad → ∀ j u, news[j]? = some u → w.cell? (ad.add j) = some u) (h1 : ∀ u ∈ news, u.oneCell' = true)
  (h63 : n + m ≤ maxLen) (hbytes : (n + m) * bytes ≤ 140737488355328) (hbase : base ≤ w.heap.size)
  (h : ∀ v' w', w'.ownsRow base e size v' (n + m) (xs ++ news) → w.grownBy w' v.ownBlock → K (a.put o.dst v') w') : o.wp P a w K Q := by
 cases ao with
 | some ad => exact wp_append_own w s x t ho base e i z size bytes ht hi hz hsize hby hzs hsz v n xs hs hown ad m c news hx hl (hnews ad rfl) h1 h63 hbytes hbase fun v' w' h2 h3 _ => h v' w' h2 h3
 | none =>
  obtain rfl := h0 rfl
  obtain rfl : news = [] := List.eq_nil_of_length_eq_zero (by rw [hl]; omega)
  obtain ⟨a', cap, rfl, hc⟩ := vC hown
  have hr := jC (P := P) w t o.type e i ht hi a' n cap c hc
  unfold Oper.wp execOp
  simp only [ho, resolve, invoke, builtin, Sem.run_bind, Sem.run_pure, Result.andThen_ok, List.map_toArray, List.map_cons, List.map_nil, hs, hx, hr]
  exact h _ _ (by rw [List.append_nil]; exact hown) ⟨rfl, rfl, rfl, Nat.le_refl _, fun _ _ _ => rfl⟩
theorem ne {w : World} {ao : Option Addr} {L : List St} (h : aL w ao L L.length) (ad : Addr) (he : ao = some ad) (j : Nat) (u : Value) (hj : (bA L)[j]? = some u) : w.cell? (ad.add j) = some u := by
 subst he
 rcases h with h0 | ⟨b, o, e, hb, hc⟩
 ·have := (List.getElem?_eq_some_iff.1 hj).1
  rw [gL] at this
  omega
 ·cases e
  exact nP (.inr ⟨b, o, rfl, hb, hc⟩) j u hj
theorem oZ {w : World} {ao : Option Addr} {L : List St} (h : aL w ao L L.length) (he : ao = none) : L.length = 0 := by
 subst he
 rcases h with h0 | ⟨b, o, e, hb, hc⟩
 ·exact h0
 ·cases e
end
section
open Go.RowKit Go.Sort
theorem oV (T : Array Value) (X : World) (b : Nat) (v : Value) (lim mode A B C D coast fr : Int) (hT : T.getD 2 undef = .pointer (some ⟨b, 0, none⟩)) (h : bN X b v lim mode A B C D coast fr) : (results Tryz.f68 T).run Tryz.prog X = .ok (.agg #[v, .int .i64 lim, .int .i64 mode, .int .i64 A, .int .i64 B, .int .i64 C, .int .i64 D, .int .i64 coast, .int .i64 fr]) X := by
 obtain ⟨h0, h1, h2, h3, h4, h5, h6, h7, h8⟩ := h
 simp only [Array.getD_eq_getD_getElem?] at hT
 simp [results, Tryz.results68, go_sem, hT, h0, h1, h2, h3, h4, h5, h6, h7, h8]
theorem dy {w : World} {b : Nat} {u : Value} {lim0 mode0 A0 B0 C0 D0 coast0 fr0 code0 : Int} (h : TkO w b u lim0 mode0 A0 B0 C0 D0 coast0 fr0 code0) (v : Value) (lim mode A B C D coast fr code : Int) : TkO ((((((((((w.setCell ⟨b, 0, none⟩ v).setCell ⟨b, 1, none⟩ (.int .i64 lim)).setCell ⟨b, 2, none⟩ (.int .i64 mode)).setCell ⟨b, 3, none⟩ (.int .i64 A)).setCell ⟨b, 4, none⟩ (.int .i64 B)).setCell ⟨b, 5, none⟩ (.int .i64 C)).setCell ⟨b, 6, none⟩ (.int .i64 D)).setCell ⟨b, 7, none⟩ (.int .i64 coast)).setCell ⟨b, 8, none⟩ (.int .i64 fr)).setCell ⟨b, 9, none⟩ (.int .i64 code)) b v lim mode A B C D coast fr code := by
 obtain ⟨⟨h0, h1, h2, h3, h4, h5, h6, h7, h8⟩, h9⟩ := h
 refine ⟨⟨?_, ?_, ?_, ?_, ?_, ?_, ?_, ?_, ?_⟩, ?_⟩ <;> simp [go_sem, h0, h1, h2, h3, h4, h5, h6, h7, h8, h9]
theorem gd (lim mode A B C D coast fr : Int) (a : Option Addr) (n c : Nat) (w : World) :
  Calls Tryz.prog 154 #[.agg #[.slice a n c, .int .i64 lim, .int .i64 mode, .int .i64 A, .int .i64 B, .int .i64 C, .int .i64 D, .int .i64 coast, .int .i64 fr]] w fun e w' => e = .returned (.agg #[.slice a n c, .int .i64 lim, .int .i64 0, .int .i64 0, .int .i64 0, .int .i64 0, .int .i64 0, .int .i64 0, .int .i64 fr]) ∧ Below w.heap.size w w' := by
 go_enter Tryz.func154, Tryz.ntmps154
 go_wp2
 exact bodyPost_ret (v := .agg #[.slice a n c, .int .i64 lim, .int .i64 0, .int .i64 0, .int .i64 0, .int .i64 0, .int .i64 0, .int .i64 0, .int .i64 fr]) (by simp [results, Tryz.results154, go_sem]) rfl ⟨rfl, aH _ _ _⟩
theorem hF (lim mode A B C D coast fr : Int) (a : Option Addr) (n c : Nat) (w : World) :
  Calls Tryz.prog 69 #[.agg #[.slice a n c, .int .i64 lim, .int .i64 mode, .int .i64 A, .int .i64 B, .int .i64 C, .int .i64 D, .int .i64 coast, .int .i64 fr]] w fun e w' => e = .returned (.agg #[.slice a n c, .int .i64 lim, .int .i64 mode, .int .i64 A, .int .i64 B, .int .i64 C, .int .i64 D, .int .i64 coast, .int .i64 fr, .int .i64 0]) ∧ Below w.heap.size w w' := by
 go_enter Tryz.func69, Tryz.ntmps69
 go_wp2
 exact bodyPost_ret (v := .agg #[.slice a n c, .int .i64 lim, .int .i64 mode, .int .i64 A, .int .i64 B, .int .i64 C, .int .i64 D, .int .i64 coast, .int .i64 fr, .int .i64 0]) (by simp [results, Tryz.results69, go_sem]) rfl ⟨rfl, aH _ _ _⟩
theorem kq (T : Array Value) (X : World) (b : Nat) (v : Value) (lim mode A B C D coast fr code : Int) (hT : T.getD 2 undef = .pointer (some ⟨b, 0, none⟩)) (h : TkO X b v lim mode A B C D coast fr code) : (results Tryz.f121 T).run Tryz.prog X = .ok (.agg #[v, .int .i64 lim, .int .i64 mode, .int .i64 A, .int .i64 B, .int .i64 C, .int .i64 D, .int .i64 coast, .int .i64 fr, .int .i64 code]) X := by
 obtain ⟨⟨h0, h1, h2, h3, h4, h5, h6, h7, h8⟩, h9⟩ := h
 simp only [Array.getD_eq_getD_getElem?] at hT
 simp [results, Tryz.results121, go_sem, hT, h0, h1, h2, h3, h4, h5, h6, h7, h8, h9]
theorem nU (T : Array Value) (X : World) (b : Nat) (v : Value) (lim mode A B C D coast fr code : Int) (hT : T.getD 4 undef = .pointer (some ⟨b, 0, none⟩)) (h : TkO X b v lim mode A B C D coast fr code) : (results Tryz.f41 T).run Tryz.prog X = .ok (.agg #[v, .int .i64 lim, .int .i64 mode, .int .i64 A, .int .i64 B, .int .i64 C, .int .i64 D, .int .i64 coast, .int .i64 fr, .int .i64 code]) X := by
 obtain ⟨⟨h0, h1, h2, h3, h4, h5, h6, h7, h8⟩, h9⟩ := h
 simp only [Array.getD_eq_getD_getElem?] at hT
 simp [results, Tryz.results41, go_sem, hT, h0, h1, h2, h3, h4, h5, h6, h7, h8, h9]
def qP (w' : World) (B : Nat) (t : Tk) (code : Int) (e : Ending) : Prop := ∃ a cap, e = .returned (.agg #[.slice a t.L.length cap, .int .i64 t.lim, .int .i64 t.mode, .int .i64 t.A, .int .i64 t.B, .int .i64 t.C, .int .i64 t.D, .int .i64 t.coast, .int .i64 t.fr, .int .i64 code]) ∧ ay w' B t.L a cap
theorem oO (w : World) (B : Nat) : ay w B [] none 0 := ⟨rfl, .inl ⟨rfl, rfl⟩⟩
theorem dh (w : World) (B : Nat) (code : Int) : qP w B dT code (.returned (.agg #[.slice none 0 0, .int .i64 0, .int .i64 0, .int .i64 0, .int .i64 0, .int .i64 0, .int .i64 0, .int .i64 0, .int .i64 0, .int .i64 code])) := ⟨none, 0, rfl, oO w B⟩
def eR (t : Tk) : Tk := if ax t = true then nw t else dT
def gD (t : Tk) : Int := if ax t = true then 0 else 1
theorem TkO.far {w : World} {b : Nat} {v : Value} {lim mode A B C D coast fr code : Int} (h : TkO w b v lim mode A B C D coast fr code) {b' : Nat} (hne : b ≠ b') (o : Nat) (x : Value) : TkO (w.setCell ⟨b', o, none⟩ x) b v lim mode A B C D coast fr code := ⟨h.1.far hne o x, by rw [World.cell?_setCell_far _ _ _ _ (Ne.symm hne)]; exact h.2⟩
theorem TkO.lt {w : World} {b : Nat} {v : Value} {lim mode A B C D coast fr code : Int} (h : TkO w b v lim mode A B C D coast fr code) : b < w.heap.size := h.1.lt
def Blk (w : World) (b : Nat) (cs : List Value) (t : TypeId) : Prop := w.heap[b]? = some (.cells cs.toArray t (0, 0))
theorem Blk.lt {w : World} {b : Nat} {cs : List Value} {t : TypeId} (h : Blk w b cs t) : b < w.heap.size := (Array.getElem?_eq_some_iff.1 h).1
theorem Blk.kept {w w' : World} {b : Nat} {cs : List Value} {t : TypeId} (h : Blk w b cs t) (hB : Below w.heap.size w w') : Blk w' b cs t := (hB.block b h.lt).trans h
theorem au (w : World) (cs : List Value) (t : TypeId) : Blk (w.alloc (.cells cs.toArray t)) w.heap.size cs t := heap_alloc_new w _
theorem Blk.alloc {w : World} {b : Nat} {cs : List Value} {t : TypeId} (h : Blk w b cs t) (o : Obj) : Blk (w.alloc o) b cs t := h.kept (an _ _)
theorem Blk.cell {w : World} {b : Nat} {cs : List Value} {t : TypeId} (h : Blk w b cs t) (i : Nat) (v : Value) (hv : cs[i]? = some v) : w.cell? ⟨b, i, none⟩ = some v := by
 rw [cell_of_row w b i _ _ _ h]; simpa using hv
theorem Blk.free {w : World} {b : Nat} {cs : List Value} {t : TypeId} (h : Blk w b cs t) (i : Nat) : w.frozen? ⟨b, i, none⟩ = false := frozen_of_row w b i _ _ h
theorem Blk.set {w : World} {b : Nat} {cs : List Value} {t : TypeId} (h : Blk w b cs t) (i : Nat) (v : Value) : Blk (w.setCell ⟨b, i, none⟩ v) b (cs.set i v) t := by
 have := heap_setCell_same w b i _ _ v h
 unfold Blk
 rw [this]
 simp
theorem Blk.other {w : World} {b : Nat} {cs : List Value} {t : TypeId} (h : Blk w b cs t) (a : Addr) (v : Value) (hne : b ≠ a.block) : Blk (w.setCell a v) b cs t := by
 unfold Blk
 rw [heap_setCell_other w a b v hne]
 exact h
theorem Blk.drewn {w : World} {b : Nat} {cs : List Value} {t : TypeId} (h : Blk w b cs t) : Blk w.drew b cs t := h
def hU (w : World) (b n : Nat) (f : Nat → Int) : Prop := ∀ j, j < n → w.cell? ⟨b, j, none⟩ = some (.int .u8 (f j)) ∧ w.frozen? ⟨b, j, none⟩ = false
theorem hU.kept {w w' : World} {b n : Nat} {f : Nat → Int} (h : hU w b n f) (hb : b < w.heap.size) (hB : Below w.heap.size w w') : hU w' b n f := fun j hj =>
 ⟨by rw [hB.cell (p := ⟨b, j, none⟩) hb]; exact (h j hj).1, by rw [hB.frozen (p := ⟨b, j, none⟩) hb]; exact (h j hj).2⟩
theorem hU.drewn {w : World} {b n : Nat} {f : Nat → Int} (h : hU w b n f) : hU w.drew b n f := h
theorem hU.congr {w : World} {b n : Nat} {f f' : Nat → Int} (h : hU w b n f) (e : ∀ j, j < n → f j = f' j) : hU w b n f' := fun j hj => ⟨by rw [(h j hj).1, e j hj], (h j hj).2⟩
theorem hU.set {w : World} {b n : Nat} {f : Nat → Int} (h : hU w b n f) (i : Nat) (hi : i < n) (v : Int) : hU (w.setCell ⟨b, i, none⟩ (.int .u8 v)) b n (fun j => if j = i then v else f j) := fun j hj => by
 refine ⟨?_, ?_⟩
 ·show _ = some (Value.int .u8 (if j = i then v else f j))
  by_cases e : j = i
  ·subst e
   rw [if_pos rfl, World.cell?_setCell_same _ _ _ (h j hj).1]
  ·rw [if_neg e, World.cell?_setCell_other _ _ _ _ (fun h => e (by simpa using (congrArg Addr.off h).symm)), (h j hj).1]
 ·rw [← (h j hj).2]
  simp
def sy (f d : ByteArray) (j : Nat) : Int := if jU f j < jU d j then 0 else (jU f j : Int) - (jU d j : Int)
def wz (f d : ByteArray) : ByteArray := strOfNums ((List.range f.size).map (sy f d))
theorem hU.conv {w : World} {b : Nat} {f d : ByteArray} (h : hU w b f.size (sy f d)) (cap : Nat) :
  (convert 22 9 (.slice (some ⟨b, 0, none⟩) f.size cap)).run Tryz.prog w = .ok (.string (wz f d)) w := by
 refine run_convert_bytes_arg (P := Tryz.prog) _ 22 5 Tryz.underlying22 Tryz.underlying5 b 0 f.size cap ((List.range f.size).map (sy f d)) (by simp) ?_ 9 Tryz.underlying9
 intro i hi
 rw [Nat.zero_add, (h i hi).1]
 congr 2
 rw [List.getD, List.getElem?_map, List.getElem?_range hi]
 rfl
theorem jD {w : World} {b : Nat} {t : TypeId} {x0 x1 x2 : Value} {r : List Value} (h : Blk w b (x0 :: x1 :: x2 :: r) t) : w.cell? ⟨b, 0, none⟩ = some x0 ∧ w.cell? ⟨b, 1, none⟩ = some x1 ∧ w.cell? ⟨b, 2, none⟩ = some x2 := ⟨h.cell 0 _ rfl, h.cell 1 _ rfl, h.cell 2 _ rfl⟩
theorem uN {w : World} {b : Nat} {t : TypeId} {x0 x1 x2 x3 : Value} {r : List Value} (h : Blk w b (x0 :: x1 :: x2 :: x3 :: r) t) : w.cell? ⟨b, 0, none⟩ = some x0 ∧ w.cell? ⟨b, 1, none⟩ = some x1 ∧ w.cell? ⟨b, 2, none⟩ = some x2 ∧ w.cell? ⟨b, 3, none⟩ = some x3 := ⟨h.cell 0 _ rfl, h.cell 1 _ rfl, h.cell 2 _ rfl, h.cell 3 _ rfl⟩
theorem mY {w : World} {b : Nat} {t : TypeId} {x0 x1 x2 x3 x4 : Value} {r : List Value} (h : Blk w b (x0 :: x1 :: x2 :: x3 :: x4 :: r) t) : w.cell? ⟨b, 0, none⟩ = some x0 ∧ w.cell? ⟨b, 1, none⟩ = some x1 ∧ w.cell? ⟨b, 2, none⟩ = some x2 ∧ w.cell? ⟨b, 3, none⟩ = some x3 ∧ w.cell? ⟨b, 4, none⟩ = some x4 := ⟨h.cell 0 _ rfl, h.cell 1 _ rfl, h.cell 2 _ rfl, h.cell 3 _ rfl, h.cell 4 _ rfl⟩
theorem gH {w : World} {b : Nat} {t : TypeId} {x0 x1 x2 x3 x4 x5 x6 x7 x8 : Value} {r : List Value} (h : Blk w b (x0 :: x1 :: x2 :: x3 :: x4 :: x5 :: x6 :: x7 :: x8 :: r) t) : w.cell? ⟨b, 0, none⟩ = some x0 ∧ w.cell? ⟨b, 1, none⟩ = some x1 ∧ w.cell? ⟨b, 2, none⟩ = some x2 ∧ w.cell? ⟨b, 3, none⟩ = some x3 ∧ w.cell? ⟨b, 4, none⟩ = some x4 ∧ w.cell? ⟨b, 5, none⟩ = some x5 ∧ w.cell? ⟨b, 6, none⟩ = some x6 ∧ w.cell? ⟨b, 7, none⟩ = some x7 ∧ w.cell? ⟨b, 8, none⟩ = some x8 := ⟨h.cell 0 _ rfl, h.cell 1 _ rfl, h.cell 2 _ rfl, h.cell 3 _ rfl, h.cell 4 _ rfl, h.cell 5 _ rfl, h.cell 6 _ rfl, h.cell 7 _ rfl, h.cell 8 _ rfl⟩
theorem qn {w : World} {b : Nat} {t : TypeId} {x0 x1 x2 x3 x4 x5 x6 x7 x8 x9 : Value} {r : List Value} (h : Blk w b (x0 :: x1 :: x2 :: x3 :: x4 :: x5 :: x6 :: x7 :: x8 :: x9 :: r) t) : w.cell? ⟨b, 0, none⟩ = some x0 ∧ w.cell? ⟨b, 1, none⟩ = some x1 ∧ w.cell? ⟨b, 2, none⟩ = some x2 ∧ w.cell? ⟨b, 3, none⟩ = some x3 ∧ w.cell? ⟨b, 4, none⟩ = some x4 ∧ w.cell? ⟨b, 5, none⟩ = some x5 ∧ w.cell? ⟨b, 6, none⟩ = some x6 ∧ w.cell? ⟨b, 7, none⟩ = some x7 ∧ w.cell? ⟨b, 8, none⟩ = some x8 ∧ w.cell? ⟨b, 9, none⟩ = some x9 := ⟨h.cell 0 _ rfl, h.cell 1 _ rfl, h.cell 2 _ rfl, h.cell 3 _ rfl, h.cell 4 _ rfl, h.cell 5 _ rfl, h.cell 6 _ rfl, h.cell 7 _ rfl, h.cell 8 _ rfl, h.cell 9 _ rfl⟩
theorem sU {w : World} {b : Nat} {t : TypeId} {x0 x1 x2 x3 x4 x5 x6 x7 x8 x9 x10 x11 x12 : Value} {r : List Value} (h : Blk w b (x0 :: x1 :: x2 :: x3 :: x4 :: x5 :: x6 :: x7 :: x8 :: x9 :: x10 :: x11 :: x12 :: r) t) : w.cell? ⟨b, 0, none⟩ = some x0 ∧ w.cell? ⟨b, 1, none⟩ = some x1 ∧ w.cell? ⟨b, 2, none⟩ = some x2 ∧ w.cell? ⟨b, 3, none⟩ = some x3 ∧ w.cell? ⟨b, 4, none⟩ = some x4 ∧ w.cell? ⟨b, 5, none⟩ = some x5 ∧ w.cell? ⟨b, 6, none⟩ = some x6 ∧ w.cell? ⟨b, 7, none⟩ = some x7 ∧ w.cell? ⟨b, 8, none⟩ = some x8 ∧ w.cell? ⟨b, 9, none⟩ = some x9 ∧ w.cell? ⟨b, 10, none⟩ = some x10 ∧ w.cell? ⟨b, 11, none⟩ = some x11 ∧ w.cell? ⟨b, 12, none⟩ = some x12 := ⟨h.cell 0 _ rfl, h.cell 1 _ rfl, h.cell 2 _ rfl, h.cell 3 _ rfl, h.cell 4 _ rfl, h.cell 5 _ rfl, h.cell 6 _ rfl, h.cell 7 _ rfl, h.cell 8 _ rfl, h.cell 9 _ rfl, h.cell 10 _ rfl, h.cell 11 _ rfl, h.cell 12 _ rfl⟩
theorem vU {w : World} {b : Nat} {t : TypeId} {cs : List Value} (h : Blk w b cs t) : w.frozen? ⟨b, 0, none⟩ = false ∧ w.frozen? ⟨b, 1, none⟩ = false ∧ w.frozen? ⟨b, 2, none⟩ = false := ⟨h.free 0, h.free 1, h.free 2⟩
theorem rK {w : World} {b : Nat} {t : TypeId} {cs : List Value} (h : Blk w b cs t) : w.frozen? ⟨b, 0, none⟩ = false ∧ w.frozen? ⟨b, 1, none⟩ = false ∧ w.frozen? ⟨b, 2, none⟩ = false ∧ w.frozen? ⟨b, 3, none⟩ = false ∧ w.frozen? ⟨b, 4, none⟩ = false := ⟨h.free 0, h.free 1, h.free 2, h.free 3, h.free 4⟩
theorem pq {w : World} {b : Nat} {t : TypeId} {cs : List Value} (h : Blk w b cs t) : w.frozen? ⟨b, 0, none⟩ = false ∧ w.frozen? ⟨b, 1, none⟩ = false ∧ w.frozen? ⟨b, 2, none⟩ = false ∧ w.frozen? ⟨b, 3, none⟩ = false ∧ w.frozen? ⟨b, 4, none⟩ = false ∧ w.frozen? ⟨b, 5, none⟩ = false ∧ w.frozen? ⟨b, 6, none⟩ = false ∧ w.frozen? ⟨b, 7, none⟩ = false ∧ w.frozen? ⟨b, 8, none⟩ = false := ⟨h.free 0, h.free 1, h.free 2, h.free 3, h.free 4, h.free 5, h.free 6, h.free 7, h.free 8⟩
theorem qe {w : World} {b : Nat} {t : TypeId} {cs : List Value} (h : Blk w b cs t) : w.frozen? ⟨b, 0, none⟩ = false ∧ w.frozen? ⟨b, 1, none⟩ = false ∧ w.frozen? ⟨b, 2, none⟩ = false ∧ w.frozen? ⟨b, 3, none⟩ = false ∧ w.frozen? ⟨b, 4, none⟩ = false ∧ w.frozen? ⟨b, 5, none⟩ = false ∧ w.frozen? ⟨b, 6, none⟩ = false ∧ w.frozen? ⟨b, 7, none⟩ = false ∧ w.frozen? ⟨b, 8, none⟩ = false ∧ w.frozen? ⟨b, 9, none⟩ = false := ⟨h.free 0, h.free 1, h.free 2, h.free 3, h.free 4, h.free 5, h.free 6, h.free 7, h.free 8, h.free 9⟩
end
end Go.Proofs.YtdchjcadhlkpfaaGreatDoor
