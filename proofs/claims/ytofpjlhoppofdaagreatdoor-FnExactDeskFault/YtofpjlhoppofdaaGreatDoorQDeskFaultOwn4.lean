/- Several texts in one: TurnO, TurnD, TurnE, TurnG, ModA, RowF, MarkS, ModC, RowR, ModD, ModE, ModG, AppO, ModH. -/
import Derived.OwnWalk
import Derived.Laws.OwnMore
import Derived.Deep.RegionHeld
import Derived.Deep.DeepCutAuto
import Derived.Test.YtofpjlhoppofdaaGreatDoorQDeskFaultOwn2
import Derived.Test.YtofpjlhoppofdaaGreatDoorQDeskFaultOwn3
import Derived.Test.YtofpjlhoppofdaaGreatDoorQDeskFaultOwn1
namespace Go.Proofs.YtofpjlhoppofdaaGreatDoor
open Go.RowKit
set_option linter.unusedVariables false
def OutAt (w : World) (b : Nat) (p q r s k : Int) : Prop := w.cell? ⟨b, 0, none⟩ = some (.int .i64 p) ∧ w.cell? ⟨b, 1, none⟩ = some (.int .i64 q) ∧ w.cell? ⟨b, 2, none⟩ = some (.int .i64 r) ∧ w.cell? ⟨b, 3, none⟩ = some (.int .i64 s) ∧ w.cell? ⟨b, 4, none⟩ = some (.int .i64 k)
def FreeO (w : World) (b : Nat) : Prop := w.frozen? ⟨b, 0, none⟩ = false ∧ w.frozen? ⟨b, 1, none⟩ = false ∧ w.frozen? ⟨b, 2, none⟩ = false ∧ w.frozen? ⟨b, 3, none⟩ = false ∧ w.frozen? ⟨b, 4, none⟩ = false
theorem OutAt.lt {w : World} {b : Nat} {p q r s k : Int} (h : OutAt w b p q r s k) : b < w.heap.size := World.block_lt_of_cell? w _ h.1
theorem OutAt.kept {w w' : World} {b : Nat} {p q r s k : Int} (h : OutAt w b p q r s k) (hB : Below w.heap.size w w') : OutAt w' b p q r s k := by
  have hb := h.lt
  obtain ⟨h0, h1, h2, h3, h4⟩ := h
  exact ⟨by rw [hB.cell (p := ⟨b, 0, none⟩) hb]; exact h0, by rw [hB.cell (p := ⟨b, 1, none⟩) hb]; exact h1, by rw [hB.cell (p := ⟨b, 2, none⟩) hb]; exact h2, by rw [hB.cell (p := ⟨b, 3, none⟩) hb]; exact h3, by rw [hB.cell (p := ⟨b, 4, none⟩) hb]; exact h4⟩
theorem FreeO.kept {w w' : World} {b : Nat} (h : FreeO w b) (hb : b < w.heap.size) (hB : Below w.heap.size w w') : FreeO w' b := by
  obtain ⟨h0, h1, h2, h3, h4⟩ := h
  exact ⟨by rw [hB.frozen (p := ⟨b, 0, none⟩) hb]; exact h0, by rw [hB.frozen (p := ⟨b, 1, none⟩) hb]; exact h1, by rw [hB.frozen (p := ⟨b, 2, none⟩) hb]; exact h2, by rw [hB.frozen (p := ⟨b, 3, none⟩) hb]; exact h3, by rw [hB.frozen (p := ⟨b, 4, none⟩) hb]; exact h4⟩
theorem outAt_new (w : World) (p q r s k : Int) (t : TypeId) : OutAt (w.alloc (.cells #[.int .i64 p, .int .i64 q, .int .i64 r, .int .i64 s, .int .i64 k] t)) w.heap.size p q r s k := by
  refine ⟨?_, ?_, ?_, ?_, ?_⟩ <;> simp
theorem freeO_new (w : World) (p q r s k : Int) (t : TypeId) : FreeO (w.alloc (.cells #[.int .i64 p, .int .i64 q, .int .i64 r, .int .i64 s, .int .i64 k] t)) w.heap.size := by
  refine ⟨?_, ?_, ?_, ?_, ?_⟩ <;> simp
theorem OutAt.alloc {w : World} {b : Nat} {p q r s k : Int} (h : OutAt w b p q r s k) (o : Obj) : OutAt (w.alloc o) b p q r s k := h.kept (below1 _ _)
end Go.Proofs.YtofpjlhoppofdaaGreatDoor
namespace Go.Proofs.YtofpjlhoppofdaaGreatDoor
open Go.RowKit Go.Sort
set_option linter.unusedVariables false
theorem of_form {a b c d : Int} (h : (inT 1000 a b c d && !zeroT a b c d) = false) : Value.agg #[.int .i64 (ofP a b c d a), .int .i64 (ofP a b c d b), .int .i64 (ofP a b c d c), .int .i64 (ofP a b c d d), .int .i64 (ofC a b c d)] = Value.agg #[.int .i64 0, .int .i64 0, .int .i64 0, .int .i64 0, .int .i64 1] := by
  unfold ofP
  rw [ofC_form h]
  rfl
theorem of_full {a b c d : Int} (h1 : inT 1000 a b c d = true) (h2 : zeroT a b c d = false) (h : rightT (a.tdiv (sT a b c d)) (b.tdiv (sT a b c d)) (c.tdiv (sT a b c d)) (d.tdiv (sT a b c d)) = false) : Value.agg #[.int .i64 (ofP a b c d a), .int .i64 (ofP a b c d b), .int .i64 (ofP a b c d c), .int .i64 (ofP a b c d d), .int .i64 (ofC a b c d)] = Value.agg #[.int .i64 0, .int .i64 0, .int .i64 0, .int .i64 0, .int .i64 9] := by
  have e : ofC a b c d = 9 := by unfold ofC; rw [h1, h2, h]; rfl
  unfold ofP
  rw [e]
  rfl
theorem of_ok {a b c d : Int} (h1 : inT 1000 a b c d = true) (h2 : zeroT a b c d = false) (h : rightT (a.tdiv (sT a b c d)) (b.tdiv (sT a b c d)) (c.tdiv (sT a b c d)) (d.tdiv (sT a b c d)) = true) : Value.agg #[.int .i64 (ofP a b c d a), .int .i64 (ofP a b c d b), .int .i64 (ofP a b c d c), .int .i64 (ofP a b c d d), .int .i64 (ofC a b c d)] = Value.agg #[.int .i64 (a.tdiv (sT a b c d)), .int .i64 (b.tdiv (sT a b c d)), .int .i64 (c.tdiv (sT a b c d)), .int .i64 (d.tdiv (sT a b c d)), .int .i64 0] := by
  have e : ofC a b c d = 0 := by unfold ofC; rw [h1, h2, h]; rfl
  unfold ofP
  rw [e]
  rfl
theorem wrapQ {a b c d : Int} (h : inT 1000 a b c d = true) (g : Int) (hg : g = sT a b c d) : wrap64 (a.tdiv g) = a.tdiv (sT a b c d) ∧ wrap64 (b.tdiv g) = b.tdiv (sT a b c d) ∧ wrap64 (c.tdiv g) = c.tdiv (sT a b c d) ∧ wrap64 (d.tdiv g) = d.tdiv (sT a b c d) := by
  subst hg
  obtain ⟨x1, x2, x3, x4⟩ := inT_iff.1 h
  have key : ∀ (x s : Int), -1000 ≤ x ∧ x ≤ 1000 → wrap64 (x.tdiv s) = x.tdiv s := fun x s hx => by have := tdiv_le (s := s) hx; exact wrap_id (by omega) (by omega)
  exact ⟨key _ _ x1, key _ _ x2, key _ _ x3, key _ _ x4⟩
set_option maxHeartbeats 1000000 in
set_option maxRecDepth 100000 in
theorem l03Of_any (a b c d : Int) (w : World) (h : inT 1000 a b c d = true) (hz : zeroT a b c d = false) :
    Calls Tryz.prog 171 #[.agg #[.int .i64 a, .int .i64 b, .int .i64 c, .int .i64 d]] w fun e w' => e = .returned (.agg #[.int .i64 (ofP a b c d a), .int .i64 (ofP a b c d b), .int .i64 (ofP a b c d c), .int .i64 (ofP a b c d d), .int .i64 (ofC a b c d)]) ∧ Below w.heap.size w w' := by
  have HI := yz h
  have HZ := yz hz
  have HN : Hid (sT a b c d ≠ 0) := yz (sT_ne (zeroT_false hz))
  have HW := yz (wrapQ h)
  have hw : wrap64 (-gT a b c d) = -gT a b c d := by have := gS4_le h 4; rw [show gS4 a b c d 4 = gT a b c d from gcd_four a b c d] at this; exact wrap_id (by omega) (by omega)
  clear h hz
  go_enter Tryz.func171, Tryz.ntmps171
  go_wp2_with fail
  refine (l03Gcd_any a b c d _ (yy HI)).mono ?_
  rintro e w1 ⟨rfl, hB1⟩
  have va : TurnAt w1 w.heap.size a b c d := ((turnAt_new w a b c d _).alloc _).kept (by simp; omega) hB1
  have vr : OutAt w1 (w.heap.size + 1) 0 0 0 0 0 := (by simpa using outAt_new (w.alloc _) 0 0 0 0 0 _ : OutAt _ (w.heap.size + 1) 0 0 0 0 0).kept hB1
  have fr : FreeO w1 (w.heap.size + 1) := (by simpa using freeO_new (w.alloc _) 0 0 0 0 0 _ : FreeO _ (w.heap.size + 1)).kept (by simp) hB1
  have hB : Below w.heap.size w w1 := below_call (below2 _ _ _) hB1
  clear hB1
  have hva := va
  obtain ⟨ca0, ca1, ca2, ca3⟩ := va
  go_wp2_with fail
  refine (l03First_any a b c d _).mono ?_
  rintro e w2 ⟨rfl, hB2⟩
  have hlt := vr.lt
  have va := hva.kept hva.lt hB2
  replace vr := vr.kept hB2
  replace fr := fr.kept hlt hB2
  replace hB := below_call hB hB2
  clear hB2 hva ca0 ca1 ca2 ca3 hlt
  by_cases hf : fT a b c d < 0
  · have hs : sT a b c d = -gT a b c d := by unfold sT; rw [if_pos hf]
    have HG := yz hs.symm
    rw [hs] at HN
    have va2 := va.alloc (.cells #[.int .i64 0, .int .i64 0, .int .i64 0, .int .i64 0] 46)
    obtain ⟨ca0, ca1, ca2, ca3⟩ := va
    obtain ⟨cb0, cb1, cb2, cb3⟩ := va2
    go_wp2_with fail
    rw [hw]
    generalize -gT a b c d = g at HN HG ⊢
    clear hw hs hf
    have hne : g ≠ 0 := yy HN
    have hz0 : (g == 0) = false := by simpa using hne
    go_region
    go_wp2_with fail
    obtain ⟨e1, e2, e3, e4⟩ := yy HW g (yy HG)
    rw [e1, e2, e3, e4]
    clear e1 e2 e3 e4 HW cb0 cb1 cb2 cb3 ca0 ca1 ca2 ca3
    cases hr : rightT (a.tdiv (sT a b c d)) (b.tdiv (sT a b c d)) (c.tdiv (sT a b c d)) (d.tdiv (sT a b c d))
    · have HR := yz (of_full (yy HI) (yy HZ) hr)
      generalize a.tdiv (sT a b c d) = p at hr ⊢
      generalize b.tdiv (sT a b c d) = q at hr ⊢
      generalize c.tdiv (sT a b c d) = r at hr ⊢
      generalize d.tdiv (sT a b c d) = s at hr ⊢
      have hx := (below1 w2 (.cells #[.int .i64 p, .int .i64 q, .int .i64 r, .int .i64 s] 46)).drew
      have hlt := vr.lt
      replace vr := vr.kept hx
      replace fr := fr.kept hlt hx
      replace hB := below_call hB hx
      clear hx hlt
      refine (specTRight_any p q r s _).mono ?_
      rintro e w3 ⟨rfl, hB3⟩
      rw [hr]
      have hlt := vr.lt
      replace vr := vr.kept hB3
      replace fr := fr.kept hlt hB3
      replace hB := below_call hB hB3
      clear hB3 hlt
      obtain ⟨cr0, cr1, cr2, cr3, cr4⟩ := vr
      obtain ⟨fr0, fr1, fr2, fr3, fr4⟩ := fr
      go_wp2_with fail
      exact bodyPost_ret (v := .agg #[.int .i64 0, .int .i64 0, .int .i64 0, .int .i64 0, .int .i64 9]) (by simp [results, Tryz.results171, go_sem, cr0, cr1, cr2, cr3, cr4]) rfl ⟨by rw [yy HR], below_set5 hB (by omega) _ _ _ _ _⟩
    · have HR := yz (of_ok (yy HI) (yy HZ) hr)
      generalize a.tdiv (sT a b c d) = p at hr HR ⊢
      generalize b.tdiv (sT a b c d) = q at hr HR ⊢
      generalize c.tdiv (sT a b c d) = r at hr HR ⊢
      generalize d.tdiv (sT a b c d) = s at hr HR ⊢
      have hx := (below1 w2 (.cells #[.int .i64 p, .int .i64 q, .int .i64 r, .int .i64 s] 46)).drew
      have hlt := vr.lt
      have vt1 : TurnAt (w2.alloc (.cells #[.int .i64 p, .int .i64 q, .int .i64 r, .int .i64 s] 46)).drew w2.heap.size p q r s := turnAt_new w2 p q r s _
      replace vr := vr.kept hx
      replace fr := fr.kept hlt hx
      replace hB := below_call hB hx
      clear hx hlt
      refine (specTRight_any p q r s _).mono ?_
      rintro e w3 ⟨rfl, hB3⟩
      rw [hr]
      have hlt := vr.lt
      replace vr := vr.kept hB3
      replace fr := fr.kept hlt hB3
      replace vt1 := vt1.kept vt1.lt hB3
      obtain ⟨ct0, ct1, ct2, ct3⟩ := vt1
      replace hB := below_call hB hB3
      clear hB3 hlt
      obtain ⟨cr0, cr1, cr2, cr3, cr4⟩ := vr
      obtain ⟨fr0, fr1, fr2, fr3, fr4⟩ := fr
      go_wp2_with fail
      exact bodyPost_ret (v := .agg #[.int .i64 p, .int .i64 q, .int .i64 r, .int .i64 s, .int .i64 0]) (by simp [results, Tryz.results171, go_sem, cr0, cr1, cr2, cr3, cr4]) rfl ⟨by rw [yy HR], below_set5 hB (by omega) _ _ _ _ _⟩
  · have hs : sT a b c d = gT a b c d := by unfold sT; rw [if_neg hf]
    have HG := yz hs.symm
    rw [hs] at HN
    have va2 := va.alloc (.cells #[.int .i64 0, .int .i64 0, .int .i64 0, .int .i64 0] 46)
    obtain ⟨ca0, ca1, ca2, ca3⟩ := va
    obtain ⟨cb0, cb1, cb2, cb3⟩ := va2
    go_wp2_with fail
    generalize gT a b c d = g at HN HG ⊢
    clear hw hs hf
    have hne : g ≠ 0 := yy HN
    have hz0 : (g == 0) = false := by simpa using hne
    go_region
    go_wp2_with fail
    obtain ⟨e1, e2, e3, e4⟩ := yy HW g (yy HG)
    rw [e1, e2, e3, e4]
    clear e1 e2 e3 e4 HW cb0 cb1 cb2 cb3 ca0 ca1 ca2 ca3
    cases hr : rightT (a.tdiv (sT a b c d)) (b.tdiv (sT a b c d)) (c.tdiv (sT a b c d)) (d.tdiv (sT a b c d))
    · have HR := yz (of_full (yy HI) (yy HZ) hr)
      generalize a.tdiv (sT a b c d) = p at hr ⊢
      generalize b.tdiv (sT a b c d) = q at hr ⊢
      generalize c.tdiv (sT a b c d) = r at hr ⊢
      generalize d.tdiv (sT a b c d) = s at hr ⊢
      have hx := (below1 w2 (.cells #[.int .i64 p, .int .i64 q, .int .i64 r, .int .i64 s] 46)).drew
      have hlt := vr.lt
      replace vr := vr.kept hx
      replace fr := fr.kept hlt hx
      replace hB := below_call hB hx
      clear hx hlt
      refine (specTRight_any p q r s _).mono ?_
      rintro e w3 ⟨rfl, hB3⟩
      rw [hr]
      have hlt := vr.lt
      replace vr := vr.kept hB3
      replace fr := fr.kept hlt hB3
      replace hB := below_call hB hB3
      clear hB3 hlt
      obtain ⟨cr0, cr1, cr2, cr3, cr4⟩ := vr
      obtain ⟨fr0, fr1, fr2, fr3, fr4⟩ := fr
      go_wp2_with fail
      exact bodyPost_ret (v := .agg #[.int .i64 0, .int .i64 0, .int .i64 0, .int .i64 0, .int .i64 9]) (by simp [results, Tryz.results171, go_sem, cr0, cr1, cr2, cr3, cr4]) rfl ⟨by rw [yy HR], below_set5 hB (by omega) _ _ _ _ _⟩
    · have HR := yz (of_ok (yy HI) (yy HZ) hr)
      generalize a.tdiv (sT a b c d) = p at hr HR ⊢
      generalize b.tdiv (sT a b c d) = q at hr HR ⊢
      generalize c.tdiv (sT a b c d) = r at hr HR ⊢
      generalize d.tdiv (sT a b c d) = s at hr HR ⊢
      have hx := (below1 w2 (.cells #[.int .i64 p, .int .i64 q, .int .i64 r, .int .i64 s] 46)).drew
      have hlt := vr.lt
      have vt1 : TurnAt (w2.alloc (.cells #[.int .i64 p, .int .i64 q, .int .i64 r, .int .i64 s] 46)).drew w2.heap.size p q r s := turnAt_new w2 p q r s _
      replace vr := vr.kept hx
      replace fr := fr.kept hlt hx
      replace hB := below_call hB hx
      clear hx hlt
      refine (specTRight_any p q r s _).mono ?_
      rintro e w3 ⟨rfl, hB3⟩
      rw [hr]
      have hlt := vr.lt
      replace vr := vr.kept hB3
      replace fr := fr.kept hlt hB3
      replace vt1 := vt1.kept vt1.lt hB3
      obtain ⟨ct0, ct1, ct2, ct3⟩ := vt1
      replace hB := below_call hB hB3
      clear hB3 hlt
      obtain ⟨cr0, cr1, cr2, cr3, cr4⟩ := vr
      obtain ⟨fr0, fr1, fr2, fr3, fr4⟩ := fr
      go_wp2_with fail
      exact bodyPost_ret (v := .agg #[.int .i64 p, .int .i64 q, .int .i64 r, .int .i64 s, .int .i64 0]) (by simp [results, Tryz.results171, go_sem, cr0, cr1, cr2, cr3, cr4]) rfl ⟨by rw [yy HR], below_set5 hB (by omega) _ _ _ _ _⟩
set_option maxRecDepth 100000 in
theorem specTurnOf_any (a b c d : Int) (w : World) :
    Calls Tryz.prog 142 #[.int .i64 a, .int .i64 b, .int .i64 c, .int .i64 d] w fun e w' => e = .returned (.agg #[.int .i64 (ofP a b c d a), .int .i64 (ofP a b c d b), .int .i64 (ofP a b c d c), .int .i64 (ofP a b c d d), .int .i64 (ofC a b c d)]) ∧ Below w.heap.size w w' := by
  go_enter Tryz.func142, Tryz.ntmps142
  go_wp2_with fail
  refine (l03Within_any 1000 a b c d _ (by omega) (by omega)).mono ?_
  rintro e w1 ⟨rfl, hB1⟩
  have vr : OutAt w1 w.heap.size 0 0 0 0 0 := ((outAt_new w 0 0 0 0 0 _).alloc _).kept hB1
  have fr : FreeO w1 w.heap.size := ((freeO_new w 0 0 0 0 0 _).kept (by simp) (below1 _ _)).kept (by simp; omega) hB1
  have va : TurnAt w1 (w.heap.size + 1) a b c d := (by simpa using turnAt_new (w.alloc _) a b c d _ : TurnAt _ (w.heap.size + 1) a b c d).kept (by simp) hB1
  have hB : Below w.heap.size w w1 := below_call (below2 _ _ _) hB1
  clear hB1
  cases hi : inT 1000 a b c d
  · have HR := yz (of_form (a := a) (b := b) (c := c) (d := d) (by rw [hi]; rfl))
    obtain ⟨cr0, cr1, cr2, cr3, cr4⟩ := vr
    obtain ⟨fr0, fr1, fr2, fr3, fr4⟩ := fr
    go_wp2_with fail
    exact bodyPost_ret (v := .agg #[.int .i64 0, .int .i64 0, .int .i64 0, .int .i64 0, .int .i64 1]) (by simp [results, Tryz.results142, go_sem, cr0, cr1, cr2, cr3, cr4]) rfl ⟨by rw [yy HR], below_set5 hB (by omega) _ _ _ _ _⟩
  · have hva := va
    obtain ⟨ca0, ca1, ca2, ca3⟩ := va
    go_wp2_with fail
    refine (l03First_any a b c d _).mono ?_
    rintro e w2 ⟨rfl, hB2⟩
    have hlt := vr.lt
    replace vr := vr.kept hB2
    replace fr := fr.kept hlt hB2
    have va := hva.kept hva.lt hB2
    replace hB := below_call hB hB2
    clear hB2 hva ca0 ca1 ca2 ca3 hlt
    by_cases hf : fT a b c d = 0
    · have HR := yz (of_form (a := a) (b := b) (c := c) (d := d) (by rw [zeroT_iff.2 (fT_zero.1 hf)]; simp))
      rw [hf]
      obtain ⟨cr0, cr1, cr2, cr3, cr4⟩ := vr
      obtain ⟨fr0, fr1, fr2, fr3, fr4⟩ := fr
      go_wp2_with fail
      exact bodyPost_ret (v := .agg #[.int .i64 0, .int .i64 0, .int .i64 0, .int .i64 0, .int .i64 1]) (by simp [results, Tryz.results142, go_sem, cr0, cr1, cr2, cr3, cr4]) rfl ⟨by rw [yy HR], below_set5 hB (by omega) _ _ _ _ _⟩
    · have HZ : Hid (zeroT a b c d = false) := yz (by rw [← Bool.not_eq_true, zeroT_iff]; exact fun e => hf (fT_zero.2 e))
      have hb : (fT a b c d == 0) = false := by simpa using hf
      clear hf
      obtain ⟨ca0, ca1, ca2, ca3⟩ := va
      go_wp2_with fail
      refine (l03Of_any a b c d _ hi (yy HZ)).mono ?_
      rintro e w3 ⟨rfl, hB3⟩
      have hlt := vr.lt
      replace vr := vr.kept hB3
      replace fr := fr.kept hlt hB3
      replace hB := below_call hB hB3
      clear hB3 ca0 ca1 ca2 ca3 hlt
      obtain ⟨cr0, cr1, cr2, cr3, cr4⟩ := vr
      obtain ⟨fr0, fr1, fr2, fr3, fr4⟩ := fr
      go_wp2_with fail
      exact bodyPost_ret (v := .agg #[.int .i64 (ofP a b c d a), .int .i64 (ofP a b c d b), .int .i64 (ofP a b c d c), .int .i64 (ofP a b c d d), .int .i64 (ofC a b c d)]) (by simp [results, Tryz.results142, go_sem, cr0, cr1, cr2, cr3, cr4]) rfl ⟨rfl, below_set5 hB (by omega) _ _ _ _ _⟩
theorem co_form {s1 s2 s3 s4 t1 t2 t3 t4 : Int} (h : coR s1 s2 s3 s4 t1 t2 t3 t4 = false) : Value.agg #[.int .i64 (coP s1 s2 s3 s4 t1 t2 t3 t4 (coA s1 s2 s3 s4 t1 t2 t3 t4)), .int .i64 (coP s1 s2 s3 s4 t1 t2 t3 t4 (coB s1 s2 s3 s4 t1 t2 t3 t4)), .int .i64 (coP s1 s2 s3 s4 t1 t2 t3 t4 (coC s1 s2 s3 s4 t1 t2 t3 t4)), .int .i64 (coP s1 s2 s3 s4 t1 t2 t3 t4 (coD s1 s2 s3 s4 t1 t2 t3 t4)), .int .i64 (coK s1 s2 s3 s4 t1 t2 t3 t4)] = Value.agg #[.int .i64 0, .int .i64 0, .int .i64 0, .int .i64 0, .int .i64 1] := by
  unfold coP coK
  rw [h]; rfl
theorem co_ok {s1 s2 s3 s4 t1 t2 t3 t4 : Int} (h : coR s1 s2 s3 s4 t1 t2 t3 t4 = true) : Value.agg #[.int .i64 (coP s1 s2 s3 s4 t1 t2 t3 t4 (coA s1 s2 s3 s4 t1 t2 t3 t4)), .int .i64 (coP s1 s2 s3 s4 t1 t2 t3 t4 (coB s1 s2 s3 s4 t1 t2 t3 t4)), .int .i64 (coP s1 s2 s3 s4 t1 t2 t3 t4 (coC s1 s2 s3 s4 t1 t2 t3 t4)), .int .i64 (coP s1 s2 s3 s4 t1 t2 t3 t4 (coD s1 s2 s3 s4 t1 t2 t3 t4)), .int .i64 (coK s1 s2 s3 s4 t1 t2 t3 t4)] = Value.agg #[.int .i64 (ofP (coA s1 s2 s3 s4 t1 t2 t3 t4) (coB s1 s2 s3 s4 t1 t2 t3 t4) (coC s1 s2 s3 s4 t1 t2 t3 t4) (coD s1 s2 s3 s4 t1 t2 t3 t4) (coA s1 s2 s3 s4 t1 t2 t3 t4)), .int .i64 (ofP (coA s1 s2 s3 s4 t1 t2 t3 t4) (coB s1 s2 s3 s4 t1 t2 t3 t4) (coC s1 s2 s3 s4 t1 t2 t3 t4) (coD s1 s2 s3 s4 t1 t2 t3 t4) (coB s1 s2 s3 s4 t1 t2 t3 t4)), .int .i64 (ofP (coA s1 s2 s3 s4 t1 t2 t3 t4) (coB s1 s2 s3 s4 t1 t2 t3 t4) (coC s1 s2 s3 s4 t1 t2 t3 t4) (coD s1 s2 s3 s4 t1 t2 t3 t4) (coC s1 s2 s3 s4 t1 t2 t3 t4)), .int .i64 (ofP (coA s1 s2 s3 s4 t1 t2 t3 t4) (coB s1 s2 s3 s4 t1 t2 t3 t4) (coC s1 s2 s3 s4 t1 t2 t3 t4) (coD s1 s2 s3 s4 t1 t2 t3 t4) (coD s1 s2 s3 s4 t1 t2 t3 t4)), .int .i64 (ofC (coA s1 s2 s3 s4 t1 t2 t3 t4) (coB s1 s2 s3 s4 t1 t2 t3 t4) (coC s1 s2 s3 s4 t1 t2 t3 t4) (coD s1 s2 s3 s4 t1 t2 t3 t4))] := by
  unfold coP coK
  rw [h]; rfl
set_option maxRecDepth 100000 in
theorem l03Compose_any (s1 s2 s3 s4 t1 t2 t3 t4 : Int) (w : World) (hs : inT 5 s1 s2 s3 s4 = true) (ht : inT 5 t1 t2 t3 t4 = true) :
    Calls Tryz.prog 110 #[.agg #[.int .i64 s1, .int .i64 s2, .int .i64 s3, .int .i64 s4], .agg #[.int .i64 t1, .int .i64 t2, .int .i64 t3, .int .i64 t4]] w fun e w' => e = .returned (.agg #[.int .i64 (ofP (coA s1 s2 s3 s4 t1 t2 t3 t4) (coB s1 s2 s3 s4 t1 t2 t3 t4) (coC s1 s2 s3 s4 t1 t2 t3 t4) (coD s1 s2 s3 s4 t1 t2 t3 t4) (coA s1 s2 s3 s4 t1 t2 t3 t4)), .int .i64 (ofP (coA s1 s2 s3 s4 t1 t2 t3 t4) (coB s1 s2 s3 s4 t1 t2 t3 t4) (coC s1 s2 s3 s4 t1 t2 t3 t4) (coD s1 s2 s3 s4 t1 t2 t3 t4) (coB s1 s2 s3 s4 t1 t2 t3 t4)), .int .i64 (ofP (coA s1 s2 s3 s4 t1 t2 t3 t4) (coB s1 s2 s3 s4 t1 t2 t3 t4) (coC s1 s2 s3 s4 t1 t2 t3 t4) (coD s1 s2 s3 s4 t1 t2 t3 t4) (coC s1 s2 s3 s4 t1 t2 t3 t4)), .int .i64 (ofP (coA s1 s2 s3 s4 t1 t2 t3 t4) (coB s1 s2 s3 s4 t1 t2 t3 t4) (coC s1 s2 s3 s4 t1 t2 t3 t4) (coD s1 s2 s3 s4 t1 t2 t3 t4) (coD s1 s2 s3 s4 t1 t2 t3 t4)), .int .i64 (ofC (coA s1 s2 s3 s4 t1 t2 t3 t4) (coB s1 s2 s3 s4 t1 t2 t3 t4) (coC s1 s2 s3 s4 t1 t2 t3 t4) (coD s1 s2 s3 s4 t1 t2 t3 t4))]) ∧ Below w.heap.size w w' := by
  have HA := yz (coW_A hs ht).1
  have HB := yz (coW_B hs ht).1
  have HC := yz (coW_C hs ht).1
  have HD := yz (coW_D hs ht).1
  clear hs ht
  go_enter Tryz.func110, Tryz.ntmps110
  go_wp2_with fail
  rw [yy HA, yy HB, yy HC, yy HD]
  refine (specTurnOf_any _ _ _ _ _).mono ?_
  rintro e w1 ⟨rfl, hx⟩
  have vr : OutAt w1 (w.heap.size + 1 + 1) 0 0 0 0 0 := (by simpa using outAt_new ((w.alloc _).alloc _) 0 0 0 0 0 _ : OutAt _ (w.heap.size + 1 + 1) 0 0 0 0 0).kept hx
  have fr : FreeO w1 (w.heap.size + 1 + 1) := (by simpa using freeO_new ((w.alloc _).alloc _) 0 0 0 0 0 _ : FreeO _ (w.heap.size + 1 + 1)).kept (by simp) hx
  have hB : Below w.heap.size w w1 := below_call (below3 _ _ _ _) hx
  clear hx HA HB HC HD
  obtain ⟨cr0, cr1, cr2, cr3, cr4⟩ := vr
  obtain ⟨fr0, fr1, fr2, fr3, fr4⟩ := fr
  go_wp2_with fail
  exact bodyPost_ret (v := .agg #[.int .i64 (ofP (coA s1 s2 s3 s4 t1 t2 t3 t4) (coB s1 s2 s3 s4 t1 t2 t3 t4) (coC s1 s2 s3 s4 t1 t2 t3 t4) (coD s1 s2 s3 s4 t1 t2 t3 t4) (coA s1 s2 s3 s4 t1 t2 t3 t4)), .int .i64 (ofP (coA s1 s2 s3 s4 t1 t2 t3 t4) (coB s1 s2 s3 s4 t1 t2 t3 t4) (coC s1 s2 s3 s4 t1 t2 t3 t4) (coD s1 s2 s3 s4 t1 t2 t3 t4) (coB s1 s2 s3 s4 t1 t2 t3 t4)), .int .i64 (ofP (coA s1 s2 s3 s4 t1 t2 t3 t4) (coB s1 s2 s3 s4 t1 t2 t3 t4) (coC s1 s2 s3 s4 t1 t2 t3 t4) (coD s1 s2 s3 s4 t1 t2 t3 t4) (coC s1 s2 s3 s4 t1 t2 t3 t4)), .int .i64 (ofP (coA s1 s2 s3 s4 t1 t2 t3 t4) (coB s1 s2 s3 s4 t1 t2 t3 t4) (coC s1 s2 s3 s4 t1 t2 t3 t4) (coD s1 s2 s3 s4 t1 t2 t3 t4) (coD s1 s2 s3 s4 t1 t2 t3 t4)), .int .i64 (ofC (coA s1 s2 s3 s4 t1 t2 t3 t4) (coB s1 s2 s3 s4 t1 t2 t3 t4) (coC s1 s2 s3 s4 t1 t2 t3 t4) (coD s1 s2 s3 s4 t1 t2 t3 t4))]) (by simp [results, Tryz.results110, go_sem, cr0, cr1, cr2, cr3, cr4]) rfl ⟨rfl, below_set5 hB (by omega) _ _ _ _ _⟩
set_option maxHeartbeats 1000000 in
set_option maxRecDepth 100000 in
theorem specCompose_any (s1 s2 s3 s4 t1 t2 t3 t4 : Int) (w : World) :
    Calls Tryz.prog 66 #[.agg #[.int .i64 s1, .int .i64 s2, .int .i64 s3, .int .i64 s4], .agg #[.int .i64 t1, .int .i64 t2, .int .i64 t3, .int .i64 t4]] w fun e w' => e = .returned (.agg #[.int .i64 (coP s1 s2 s3 s4 t1 t2 t3 t4 (coA s1 s2 s3 s4 t1 t2 t3 t4)), .int .i64 (coP s1 s2 s3 s4 t1 t2 t3 t4 (coB s1 s2 s3 s4 t1 t2 t3 t4)), .int .i64 (coP s1 s2 s3 s4 t1 t2 t3 t4 (coC s1 s2 s3 s4 t1 t2 t3 t4)), .int .i64 (coP s1 s2 s3 s4 t1 t2 t3 t4 (coD s1 s2 s3 s4 t1 t2 t3 t4)), .int .i64 (coK s1 s2 s3 s4 t1 t2 t3 t4)]) ∧ Below w.heap.size w w' := by
  go_enter Tryz.func66, Tryz.ntmps66
  go_wp2_with fail
  refine (specTRight_any s1 s2 s3 s4 _).mono ?_
  rintro e w1 ⟨rfl, hx⟩
  have va : TurnAt w1 w.heap.size s1 s2 s3 s4 := (((turnAt_new w s1 s2 s3 s4 _).alloc _).alloc _).kept (by simp; omega) hx
  have vb : TurnAt w1 (w.heap.size + 1) t1 t2 t3 t4 := ((by simpa using turnAt_new (w.alloc _) t1 t2 t3 t4 _ : TurnAt _ (w.heap.size + 1) t1 t2 t3 t4).alloc _).kept (by simp) hx
  have vr : OutAt w1 (w.heap.size + 1 + 1) 0 0 0 0 0 := (by simpa using outAt_new ((w.alloc _).alloc _) 0 0 0 0 0 _ : OutAt _ (w.heap.size + 1 + 1) 0 0 0 0 0).kept hx
  have fr : FreeO w1 (w.heap.size + 1 + 1) := (by simpa using freeO_new ((w.alloc _).alloc _) 0 0 0 0 0 _ : FreeO _ (w.heap.size + 1 + 1)).kept (by simp) hx
  have hB : Below w.heap.size w w1 := below_call (below3 _ _ _ _) hx
  clear hx
  cases h1 : rightT s1 s2 s3 s4
  · have HR := yz (co_form (s1 := s1) (s2 := s2) (s3 := s3) (s4 := s4) (t1 := t1) (t2 := t2) (t3 := t3) (t4 := t4) (by rw [coR, h1]; rfl))
    obtain ⟨cr0, cr1, cr2, cr3, cr4⟩ := vr
    obtain ⟨fr0, fr1, fr2, fr3, fr4⟩ := fr
    go_wp2_with fail
    exact bodyPost_ret (v := .agg #[.int .i64 0, .int .i64 0, .int .i64 0, .int .i64 0, .int .i64 1]) (by simp [results, Tryz.results66, go_sem, cr0, cr1, cr2, cr3, cr4]) rfl ⟨by rw [yy HR], below_set5 hB (by omega) _ _ _ _ _⟩
  · have wa := va
    have wb := vb
    obtain ⟨ca0, ca1, ca2, ca3⟩ := wa
    obtain ⟨cb0, cb1, cb2, cb3⟩ := wb
    go_wp2_with fail
    clear ca0 ca1 ca2 ca3 cb0 cb1 cb2 cb3
    refine (specTRight_any t1 t2 t3 t4 _).mono ?_
    rintro e w2 ⟨rfl, hx⟩
    have hlt := vr.lt
    replace va := va.kept va.lt hx
    replace vb := vb.kept vb.lt hx
    replace vr := vr.kept hx
    replace fr := fr.kept hlt hx
    replace hB := below_call hB hx
    clear hx hlt
    cases h2 : rightT t1 t2 t3 t4
    · have HR := yz (co_form (s1 := s1) (s2 := s2) (s3 := s3) (s4 := s4) (t1 := t1) (t2 := t2) (t3 := t3) (t4 := t4) (by rw [coR, h1, h2]; rfl))
      obtain ⟨cr0, cr1, cr2, cr3, cr4⟩ := vr
      obtain ⟨fr0, fr1, fr2, fr3, fr4⟩ := fr
      go_wp2_with fail
      exact bodyPost_ret (v := .agg #[.int .i64 0, .int .i64 0, .int .i64 0, .int .i64 0, .int .i64 1]) (by simp [results, Tryz.results66, go_sem, cr0, cr1, cr2, cr3, cr4]) rfl ⟨by rw [yy HR], below_set5 hB (by omega) _ _ _ _ _⟩
    · have wa := va
      have wb := vb
      obtain ⟨ca0, ca1, ca2, ca3⟩ := wa
      obtain ⟨cb0, cb1, cb2, cb3⟩ := wb
      go_wp2_with fail
      clear ca0 ca1 ca2 ca3 cb0 cb1 cb2 cb3
      have HR := yz (co_ok (s1 := s1) (s2 := s2) (s3 := s3) (s4 := s4) (t1 := t1) (t2 := t2) (t3 := t3) (t4 := t4) (by rw [coR, h1, h2]; rfl))
      refine (l03Compose_any s1 s2 s3 s4 t1 t2 t3 t4 _ (rightT_iff.1 h1).1 (rightT_iff.1 h2).1).mono ?_
      rintro e w3 ⟨rfl, hx⟩
      have hlt := vr.lt
      replace vr := vr.kept hx
      replace fr := fr.kept hlt hx
      replace hB := below_call hB hx
      clear hx hlt va vb
      obtain ⟨cr0, cr1, cr2, cr3, cr4⟩ := vr
      obtain ⟨fr0, fr1, fr2, fr3, fr4⟩ := fr
      go_wp2_with fail
      exact bodyPost_ret (v := .agg #[.int .i64 (ofP (coA s1 s2 s3 s4 t1 t2 t3 t4) (coB s1 s2 s3 s4 t1 t2 t3 t4) (coC s1 s2 s3 s4 t1 t2 t3 t4) (coD s1 s2 s3 s4 t1 t2 t3 t4) (coA s1 s2 s3 s4 t1 t2 t3 t4)), .int .i64 (ofP (coA s1 s2 s3 s4 t1 t2 t3 t4) (coB s1 s2 s3 s4 t1 t2 t3 t4) (coC s1 s2 s3 s4 t1 t2 t3 t4) (coD s1 s2 s3 s4 t1 t2 t3 t4) (coB s1 s2 s3 s4 t1 t2 t3 t4)), .int .i64 (ofP (coA s1 s2 s3 s4 t1 t2 t3 t4) (coB s1 s2 s3 s4 t1 t2 t3 t4) (coC s1 s2 s3 s4 t1 t2 t3 t4) (coD s1 s2 s3 s4 t1 t2 t3 t4) (coC s1 s2 s3 s4 t1 t2 t3 t4)), .int .i64 (ofP (coA s1 s2 s3 s4 t1 t2 t3 t4) (coB s1 s2 s3 s4 t1 t2 t3 t4) (coC s1 s2 s3 s4 t1 t2 t3 t4) (coD s1 s2 s3 s4 t1 t2 t3 t4) (coD s1 s2 s3 s4 t1 t2 t3 t4)), .int .i64 (ofC (coA s1 s2 s3 s4 t1 t2 t3 t4) (coB s1 s2 s3 s4 t1 t2 t3 t4) (coC s1 s2 s3 s4 t1 t2 t3 t4) (coD s1 s2 s3 s4 t1 t2 t3 t4))]) (by simp [results, Tryz.results66, go_sem, cr0, cr1, cr2, cr3, cr4]) rfl ⟨by rw [yy HR], below_set5 hB (by omega) _ _ _ _ _⟩
def TkAt (w : World) (b : Nat) (v : Value) (lim mode A B C D coast fr : Int) : Prop := w.cell? ⟨b, 0, none⟩ = some v ∧ w.cell? ⟨b, 1, none⟩ = some (.int .i64 lim) ∧ w.cell? ⟨b, 2, none⟩ = some (.int .i64 mode) ∧ w.cell? ⟨b, 3, none⟩ = some (.int .i64 A) ∧ w.cell? ⟨b, 4, none⟩ = some (.int .i64 B) ∧ w.cell? ⟨b, 5, none⟩ = some (.int .i64 C) ∧ w.cell? ⟨b, 6, none⟩ = some (.int .i64 D) ∧ w.cell? ⟨b, 7, none⟩ = some (.int .i64 coast) ∧ w.cell? ⟨b, 8, none⟩ = some (.int .i64 fr)
theorem cellK {w w' : World} {a : Addr} {v : Value} (h : w.cell? a = some v) (hB : Below w.heap.size w w') : w'.cell? a = some v := (hB.cell (World.block_lt_of_cell? w a h)).trans h
theorem TkAt.kept {w w' : World} {b : Nat} {v : Value} {lim mode A B C D coast fr : Int} (h : TkAt w b v lim mode A B C D coast fr) (hB : Below w.heap.size w w') : TkAt w' b v lim mode A B C D coast fr := by
  obtain ⟨h0, h1, h2, h3, h4, h5, h6, h7, h8⟩ := h
  exact ⟨cellK h0 hB, cellK h1 hB, cellK h2 hB, cellK h3 hB, cellK h4 hB, cellK h5 hB, cellK h6 hB, cellK h7 hB, cellK h8 hB⟩
theorem tkAt_new (w : World) (v : Value) (lim mode A B C D coast fr : Int) (t : TypeId) : TkAt (w.alloc (.cells #[v, .int .i64 lim, .int .i64 mode, .int .i64 A, .int .i64 B, .int .i64 C, .int .i64 D, .int .i64 coast, .int .i64 fr] t)) w.heap.size v lim mode A B C D coast fr := by
  refine ⟨?_, ?_, ?_, ?_, ?_, ?_, ?_, ?_, ?_⟩ <;> simp
theorem TkAt.lt {w : World} {b : Nat} {v : Value} {lim mode A B C D coast fr : Int} (h : TkAt w b v lim mode A B C D coast fr) : b < w.heap.size := World.block_lt_of_cell? w _ h.1
end Go.Proofs.YtofpjlhoppofdaaGreatDoor
namespace Go.Proofs.YtofpjlhoppofdaaGreatDoor
open Go.RowKit
set_option linter.unusedVariables false
def RowAt (w : World) (t : TypeId) (g m : Nat) (f : Nat → Int) : Prop := ∃ cur : Array Value, w.heap[g]? = some (.cells cur t (0, 0)) ∧ ∀ j, j < m → cur[j]? = some (.int .i64 (f j))
theorem RowAt.lt {w : World} {t : TypeId} {g m : Nat} {f : Nat → Int} (h : RowAt w t g m f) : g < w.heap.size := by
  obtain ⟨cur, hc, _⟩ := h
  exact (Array.getElem?_eq_some_iff.1 hc).1
theorem RowAt.same {w w' : World} {t : TypeId} {g m : Nat} {f : Nat → Int} (h : RowAt w t g m f) (e : w'.heap[g]? = w.heap[g]?) : RowAt w' t g m f := by
  obtain ⟨cur, hc, hs⟩ := h
  exact ⟨cur, by rw [e]; exact hc, hs⟩
theorem RowAt.kept {w w' : World} {t : TypeId} {g m : Nat} {f : Nat → Int} (h : RowAt w t g m f) (hB : Below w.heap.size w w') : RowAt w' t g m f := h.same (hB.block g h.lt)
theorem RowAt.congr {w : World} {t : TypeId} {g m : Nat} {f f' : Nat → Int} (h : RowAt w t g m f) (e : ∀ j, j < m → f j = f' j) : RowAt w t g m f' := by
  obtain ⟨cur, hc, hs⟩ := h
  exact ⟨cur, hc, fun j hj => by rw [hs j hj, e j hj]⟩
theorem RowAt.cell {w : World} {t : TypeId} {g m j : Nat} {f : Nat → Int} (h : RowAt w t g m f) (hj : j < m) : w.cell? ⟨g, j, none⟩ = some (.int .i64 (f j)) := by
  obtain ⟨cur, hc, hs⟩ := h
  rw [cell_of_row w g j cur t _ hc]
  exact hs j hj
theorem RowAt.free {w : World} {t : TypeId} {g m : Nat} {f : Nat → Int} (h : RowAt w t g m f) (j : Nat) : w.frozen? ⟨g, j, none⟩ = false := by
  obtain ⟨cur, hc, _⟩ := h
  exact frozen_of_row w g j cur t hc
theorem RowAt.set {w : World} {t : TypeId} {g m : Nat} {f : Nat → Int} (h : RowAt w t g m f) (i : Nat) (v : Int) : RowAt (w.setCell ⟨g, i, none⟩ (.int .i64 v)) t g m (fun j => if j = i then v else f j) := by
  obtain ⟨cur, hc, hs⟩ := h
  refine ⟨_, heap_setCell_same w g i cur t (.int .i64 v) hc, fun j hj => ?_⟩
  have := hs j hj
  rw [Array.getElem?_setIfInBounds]
  by_cases e : i = j
  · subst e
    simp [(Array.getElem?_eq_some_iff.1 this).1]
  · have e' : ¬ j = i := fun h => e (Eq.symm h)
    simp [e, e', this]
theorem grownRefl (w : World) (row : Option Nat) : w.grownBy w row := ⟨rfl, rfl, rfl, Nat.le_refl _, fun _ _ _ => rfl⟩
theorem grownSet {w w1 : World} {g : Nat} (h : w.grownBy w1 (some g)) (i : Nat) (v : Value) : w.grownBy (w1.setCell ⟨g, i, none⟩ v) (some g) :=
  ⟨h.os, h.tape, h.output, by simpa [World.setCell] using h.size, fun k hk hne => by rw [Below.heap_setCell _ _ _ _ (fun e => hne (by rw [e]))]; exact h.block k hk hne⟩
end Go.Proofs.YtofpjlhoppofdaaGreatDoor
namespace Go.Proofs.YtofpjlhoppofdaaGreatDoor
open Go.RowKit Go.Sort
set_option linter.unusedVariables false
def OwnR (w : World) (a : Option Addr) (n : Nat) (row : Option Nat) : Prop := (n = 0 ∧ row = none) ∨ ∃ g f, a = some ⟨g, 0, none⟩ ∧ row = some g ∧ RowAt w 78 g (n * 4) f
def Mkd (w : World) (a : Option Addr) (n : Nat) (row : Option Nat) : Prop := (n = 0 ∧ row = none) ∨ ∃ g, a = some ⟨g, 0, none⟩ ∧ row = some g ∧ RowAt w 78 g (n * 4) (fun j => 1 + (j : Int))
theorem OwnR.kept {w w' : World} {a : Option Addr} {n : Nat} {row : Option Nat} (h : OwnR w a n row) (hB : Below w.heap.size w w') : OwnR w' a n row := by
  rcases h with h | ⟨g, f, h1, h2, h3⟩
  · exact .inl h
  · exact .inr ⟨g, f, h1, h2, h3.kept hB⟩
theorem Mkd.kept {w w' : World} {a : Option Addr} {n : Nat} {row : Option Nat} (h : Mkd w a n row) (hB : Below w.heap.size w w') : Mkd w' a n row := by
  rcases h with h | ⟨g, h1, h2, h3⟩
  · exact .inl h
  · exact .inr ⟨g, h1, h2, h3.kept hB⟩
theorem OwnR.lt {w : World} {a : Option Addr} {n : Nat} {row : Option Nat} (h : OwnR w a n row) {g : Nat} (e : row = some g) : g < w.heap.size := by
  rcases h with ⟨_, h⟩ | ⟨g', f, h1, h2, h3⟩
  · rw [h] at e; cases e
  · rw [h2] at e; obtain rfl := Option.some.inj e; exact h3.lt
theorem belowR {B : Nat} {w w1 w2 : World} {row : Option Nat} (h : Below B w w1) (hg : w1.grownBy w2 row) (hB : B ≤ w1.heap.size) (hr : ∀ g, row = some g → B ≤ g) : Below B w w2 :=
  h.trans ⟨hg.os, hg.tape, hg.output, hg.size, fun k hk => hg.block k (by omega) (fun e => by have := hr k e.symm; omega)⟩
def flatSt (L : List St) : List Value := L.flatMap stC
theorem flatSt_len (L : List St) : (flatSt L).length = L.length * 4 := by
  unfold flatSt
  induction L with
  | nil => rfl
  | cons x l ih => simp [List.flatMap_cons, stC] at *; omega
theorem flatSt_at (L : List St) : ∀ (i : Nat), i < L.length → (flatSt L)[i * 4]? = some (.int .i64 (stA L i).1) ∧ (flatSt L)[i * 4 + 1]? = some (.int .i64 (stA L i).2.1) ∧ (flatSt L)[i * 4 + 2]? = some (.int .i64 (stA L i).2.2.1) ∧ (flatSt L)[i * 4 + 3]? = some (.int .i64 (stA L i).2.2.2) := by
  induction L with
  | nil => intro i hi; simp at hi
  | cons x l ih =>
    intro i hi
    match i with
    | 0 => exact ⟨rfl, rfl, rfl, rfl⟩
    | i + 1 =>
      have h := ih i (by simpa using hi)
      have e : ∀ r, (flatSt (x :: l))[(i + 1) * 4 + r]? = (flatSt l)[i * 4 + r]? := fun r => by
        rw [show (i + 1) * 4 + r = (i * 4 + r) + 4 by omega]
        rfl
      have e2 : stA (x :: l) (i + 1) = stA l i := rfl
      rw [e2]
      exact ⟨by have := e 0; simp only [Nat.add_zero] at this; rw [this]; exact h.1, by rw [e 1]; exact h.2.1, by rw [e 2]; exact h.2.2.1, by rw [e 3]; exact h.2.2.2⟩
theorem own_stars {w : World} {B : Nat} {v : Value} {L : List St} (h : w.ownsRow B 78 4 v L.length (flatSt L)) : ∃ a cap, v = .slice a L.length cap ∧ L.length ≤ cap ∧ cap ≤ maxLen ∧ Stars w a L L.length := by
  rcases h.2 with ⟨h1, h0⟩ | ⟨g, cap, cur, hv, hb, hg, hnc, hcm, hcs, htake⟩
  · exact ⟨none, 0, by rw [h1, h0], by omega, Nat.zero_le _, .inl h0⟩
  · refine ⟨_, cap, hv, hnc, hcm, .inr ⟨g, 0, rfl, (Array.getElem?_eq_some_iff.1 hg).1, fun i hi => ?_⟩⟩
    have hc : ∀ j, j < L.length * 4 → w.cell? ⟨g, j, none⟩ = (flatSt L)[j]? := fun j hj => by
      rw [cell_of_row w g j cur _ _ hg, ← htake, List.getElem?_take, if_pos hj]
      simp
    obtain ⟨e0, e1, e2, e3⟩ := flatSt_at L i hi
    rw [Nat.zero_add]
    exact ⟨by rw [hc _ (by omega)]; exact e0, by rw [hc _ (by omega)]; exact e1, by rw [hc _ (by omega)]; exact e2, by rw [hc _ (by omega)]; exact e3⟩
theorem flatSt_int (L : List St) (j : Nat) (hj : j < L.length * 4) : ∃ z, (flatSt L)[j]? = some (.int .i64 z) := by
  obtain ⟨e0, e1, e2, e3⟩ := flatSt_at L (j / 4) (by omega)
  have h : j = j / 4 * 4 ∨ j = j / 4 * 4 + 1 ∨ j = j / 4 * 4 + 2 ∨ j = j / 4 * 4 + 3 := by omega
  rcases h with h | h | h | h
  · rw [h]; exact ⟨_, e0⟩
  · rw [h]; exact ⟨_, e1⟩
  · rw [h]; exact ⟨_, e2⟩
  · rw [h]; exact ⟨_, e3⟩
theorem own_row {w : World} {B : Nat} {v : Value} {L : List St} {a : Option Addr} {cap : Nat} (h : w.ownsRow B 78 4 v L.length (flatSt L)) (hv : v = .slice a L.length cap) : ∃ row, OwnR w a L.length row ∧ ∀ g, row = some g → B ≤ g := by
  rcases h.2 with ⟨h1, h0⟩ | ⟨g, cap', cur, hv', hb, hg, hnc, hcm, hcs, htake⟩
  · exact ⟨none, .inl ⟨h0, rfl⟩, fun g e => by cases e⟩
  · rw [hv] at hv'
    injection hv' with e1 e2 e3
    refine ⟨some g, .inr ⟨g, fun j => if h : j < L.length * 4 then Classical.choose (flatSt_int L j h) else 0, e1, rfl, cur, hg, fun j hj => ?_⟩, fun g' e => by obtain rfl := Option.some.inj e; exact hb⟩
    have e4 : cur[j]? = (flatSt L)[j]? := by
      rw [← htake, List.getElem?_take, if_pos hj]
      simp
    rw [e4]
    simp only [hj, dif_pos]
    exact Classical.choose_spec (flatSt_int L j hj)
def FreeK (w : World) (b : Nat) : Prop := ∀ i, w.frozen? ⟨b, i, none⟩ = false
theorem FreeK.kept {w w' : World} {b : Nat} (h : FreeK w b) (hb : b < w.heap.size) (hB : Below w.heap.size w w') : FreeK w' b := fun i => (hB.frozen (p := ⟨b, i, none⟩) hb).trans (h i)
theorem freeK_new (w : World) (cs : Array Value) (t : TypeId) : FreeK (w.alloc (.cells cs t)) w.heap.size := fun i => by simp
theorem FreeK.set {w : World} {b : Nat} (h : FreeK w b) (p : Addr) (v : Value) : FreeK (w.setCell p v) b := fun i => by rw [World.frozen?_setCell]; exact h i
theorem OwnS.far {w : World} {b n k : Nat} {L : List St} (h : OwnS w b n L k) {b' : Nat} (hne : b ≠ b') (o : Nat) (x : Value) : OwnS (w.setCell ⟨b', o, none⟩ x) b n L k := by
  obtain ⟨cur, hc, r⟩ := h
  exact ⟨cur, by rw [Below.heap_setCell w ⟨b', o, none⟩ x b hne]; exact hc, r⟩
theorem TkAt.far {w : World} {b : Nat} {v : Value} {lim mode A B C D coast fr : Int} (h : TkAt w b v lim mode A B C D coast fr) {b' : Nat} (hne : b ≠ b') (o : Nat) (x : Value) : TkAt (w.setCell ⟨b', o, none⟩ x) b v lim mode A B C D coast fr := by
  obtain ⟨h0, h1, h2, h3, h4, h5, h6, h7, h8⟩ := h
  refine ⟨?_, ?_, ?_, ?_, ?_, ?_, ?_, ?_, ?_⟩ <;> (rw [World.cell?_setCell_far _ _ _ _ (Ne.symm hne)]; assumption)
theorem tkAt_set9 {w : World} {b : Nat} {u : Value} {lim0 mode0 A0 B0 C0 D0 coast0 fr0 : Int} (h : TkAt w b u lim0 mode0 A0 B0 C0 D0 coast0 fr0) (v : Value) (lim mode A B C D coast fr : Int) : TkAt (((((((((w.setCell ⟨b, 0, none⟩ v).setCell ⟨b, 1, none⟩ (.int .i64 lim)).setCell ⟨b, 2, none⟩ (.int .i64 mode)).setCell ⟨b, 3, none⟩ (.int .i64 A)).setCell ⟨b, 4, none⟩ (.int .i64 B)).setCell ⟨b, 5, none⟩ (.int .i64 C)).setCell ⟨b, 6, none⟩ (.int .i64 D)).setCell ⟨b, 7, none⟩ (.int .i64 coast)).setCell ⟨b, 8, none⟩ (.int .i64 fr)) b v lim mode A B C D coast fr := by
  obtain ⟨h0, h1, h2, h3, h4, h5, h6, h7, h8⟩ := h
  refine ⟨?_, ?_, ?_, ?_, ?_, ?_, ?_, ?_, ?_⟩ <;> simp [go_sem, h0, h1, h2, h3, h4, h5, h6, h7, h8]
theorem belowSet {B : Nat} {w w1 : World} (h : Below B w w1) {b : Nat} (hb : B ≤ b) (o : Nat) (v : Value) : Below B w (w1.setCell ⟨b, o, none⟩ v) := h.setCell hb v
def TkO (w : World) (b : Nat) (v : Value) (lim mode A B C D coast fr code : Int) : Prop := TkAt w b v lim mode A B C D coast fr ∧ w.cell? ⟨b, 9, none⟩ = some (.int .i64 code)
theorem TkO.kept {w w' : World} {b : Nat} {v : Value} {lim mode A B C D coast fr code : Int} (h : TkO w b v lim mode A B C D coast fr code) (hB : Below w.heap.size w w') : TkO w' b v lim mode A B C D coast fr code := ⟨h.1.kept hB, cellK h.2 hB⟩
theorem tkO_new (w : World) (v : Value) (lim mode A B C D coast fr code : Int) (t : TypeId) : TkO (w.alloc (.cells #[v, .int .i64 lim, .int .i64 mode, .int .i64 A, .int .i64 B, .int .i64 C, .int .i64 D, .int .i64 coast, .int .i64 fr, .int .i64 code] t)) w.heap.size v lim mode A B C D coast fr code := by
  refine ⟨⟨?_, ?_, ?_, ?_, ?_, ?_, ?_, ?_, ?_⟩, ?_⟩ <;> simp
theorem cellG {w w' : World} {a : Addr} {v : Value} {row : Option Nat} (h : w.cell? a = some v) (hg : w.grownBy w' row) (hne : some a.block ≠ row) : w'.cell? a = some v := (World.cell?_of_block (hg.block a.block (World.block_lt_of_cell? w a h) hne)).trans h
theorem TkAt.grown {w w' : World} {b : Nat} {v : Value} {lim mode A B C D coast fr : Int} {row : Option Nat} (h : TkAt w b v lim mode A B C D coast fr) (hg : w.grownBy w' row) (hne : some b ≠ row) : TkAt w' b v lim mode A B C D coast fr := by
  obtain ⟨h0, h1, h2, h3, h4, h5, h6, h7, h8⟩ := h
  exact ⟨cellG h0 hg hne, cellG h1 hg hne, cellG h2 hg hne, cellG h3 hg hne, cellG h4 hg hne, cellG h5 hg hne, cellG h6 hg hne, cellG h7 hg hne, cellG h8 hg hne⟩
theorem TkO.grown {w w' : World} {b : Nat} {v : Value} {lim mode A B C D coast fr code : Int} {row : Option Nat} (h : TkO w b v lim mode A B C D coast fr code) (hg : w.grownBy w' row) (hne : some b ≠ row) : TkO w' b v lim mode A B C D coast fr code := ⟨h.1.grown hg hne, cellG h.2 hg hne⟩
theorem ownS_none (w : World) (B : Nat) (h : B ≤ w.heap.size) : (w.alloc (.cells #[] 78)).ownsRow B 78 4 (.slice (some ⟨w.heap.size, 0, none⟩) 0 0) 0 [] :=
  ⟨rfl, .inr ⟨_, 0, #[], rfl, h, Array.getElem?_push_size, Nat.le_refl _, Nat.zero_le _, rfl, rfl⟩⟩
theorem flatSt_one {L : List St} {u : Value} (h : u ∈ flatSt L) : u.oneCell' = true := by
  unfold flatSt at h
  rw [List.mem_flatMap] at h
  obtain ⟨s, _, hs⟩ := h
  simp [stC] at hs
  rcases hs with rfl | rfl | rfl | rfl <;> rfl
theorem stars_cells {w : World} {b o : Nat} {L : List St} (h : Stars w (some ⟨b, o, none⟩) L L.length) (j : Nat) (u : Value) (hj : (flatSt L)[j]? = some u) : w.cell? ((⟨b, o, none⟩ : Addr).add j) = some u := by
  have hlt : j < L.length * 4 := by
    have := (List.getElem?_eq_some_iff.1 hj).1
    rw [flatSt_len] at this
    exact this
  have hA : (⟨b, o, none⟩ : Addr).add j = ⟨b, o + j, none⟩ := by unfold Addr.add; split <;> simp_all
  rw [hA]
  rcases h with h | ⟨b', o', e, _, hc⟩
  · omega
  · simp only [Option.some.injEq, Addr.mk.injEq, and_true] at e
    obtain ⟨rfl, rfl⟩ := e
    obtain ⟨e0, e1, e2, e3⟩ := flatSt_at L (j / 4) (by omega)
    obtain ⟨c0, c1, c2, c3⟩ := hc (j / 4) (by omega)
    have h4 : j = j / 4 * 4 ∨ j = j / 4 * 4 + 1 ∨ j = j / 4 * 4 + 2 ∨ j = j / 4 * 4 + 3 := by omega
    rcases h4 with h4 | h4 | h4 | h4
    · rw [h4, e0] at hj; rw [h4, c0]; exact hj
    · rw [h4, e1] at hj; rw [h4, ← Nat.add_assoc, c1]; exact hj
    · rw [h4, e2] at hj; rw [h4, ← Nat.add_assoc, c2]; exact hj
    · rw [h4, e3] at hj; rw [h4, ← Nat.add_assoc, c3]; exact hj
def Copied (w : World) (B : Nat) (L : List St) (a : Option Addr) (cap : Nat) : Prop := w.ownsRow B 78 4 (.slice a L.length cap) L.length (flatSt L)
theorem Copied.stars {w : World} {B : Nat} {L : List St} {a : Option Addr} {cap : Nat} (h : Copied w B L a cap) : Stars w a L L.length := by
  obtain ⟨a', c', e, _, _, hs⟩ := own_stars h
  injection e with e1 e2 e3
  subst e1
  exact hs
theorem Copied.row {w : World} {B : Nat} {L : List St} {a : Option Addr} {cap : Nat} (h : Copied w B L a cap) : ∃ row, OwnR w a L.length row ∧ ∀ g, row = some g → B ≤ g := own_row h rfl
theorem Copied.kept {w w' : World} {B : Nat} {L : List St} {a : Option Addr} {cap : Nat} (h : Copied w B L a cap) (hB : Below w.heap.size w w') : Copied w' B L a cap := by
  obtain ⟨h1, h2⟩ := h
  refine ⟨h1, ?_⟩
  rcases h2 with h2 | ⟨g, c', cur, e, hg, hh, r⟩
  · exact .inl h2
  · exact .inr ⟨g, c', cur, e, hg, by rw [hB.block g (Array.getElem?_eq_some_iff.1 hh).1]; exact hh, r⟩
theorem Copied.low {w : World} {B B' : Nat} {L : List St} {a : Option Addr} {cap : Nat} (h : Copied w B L a cap) (hb : B' ≤ B) : Copied w B' L a cap := by
  obtain ⟨h1, h2⟩ := h
  refine ⟨h1, ?_⟩
  rcases h2 with h2 | ⟨g, c', cur, e, hg, r⟩
  · exact .inl h2
  · exact .inr ⟨g, c', cur, e, by omega, r⟩
theorem copied_form {w : World} {B : Nat} {L : List St} {v : Value} (h : w.ownsRow B 78 4 v L.length (flatSt L)) : ∃ a cap, v = .slice a L.length cap ∧ Copied w B L a cap := by
  obtain ⟨a, cap, e, _⟩ := own_stars h
  exact ⟨a, cap, e, by unfold Copied; rw [← e]; exact h⟩
theorem FreeK.grown {w w' : World} {b : Nat} {row : Option Nat} (h : FreeK w b) (hb : b < w.heap.size) (hg : w.grownBy w' row) (hne : some b ≠ row) : FreeK w' b := fun i => by
  have h1 := h i
  unfold World.frozen? at h1 ⊢
  rw [hg.block b hb hne]
  exact h1
theorem Copied.far {w : World} {B : Nat} {L : List St} {a : Option Addr} {cap : Nat} (h : Copied w B L a cap) {b : Nat} (hne : b < B) (o : Nat) (x : Value) : Copied (w.setCell ⟨b, o, none⟩ x) B L a cap := by
  obtain ⟨h1, h2⟩ := h
  refine ⟨h1, ?_⟩
  rcases h2 with h2 | ⟨g, c', cur, e, hg, hh, r⟩
  · exact .inl h2
  · exact .inr ⟨g, c', cur, e, hg, by rw [Below.heap_setCell w ⟨b, o, none⟩ x g (by show g ≠ b; omega)]; exact hh, r⟩
end Go.Proofs.YtofpjlhoppofdaaGreatDoor
namespace Go.Proofs.YtofpjlhoppofdaaGreatDoor
open Go.RowKit Go.Sort
set_option linter.unusedVariables false
set_option linter.unusedSimpArgs false
theorem run_append_nilO {P : Program} (w : World) (t ty e : TypeId) (i : TypeInfo) (ht : P.underlying t = some (.slice e)) (hi : P.info? e = some i) (a : Option Addr) (n cap c : Nat) (hc : n ≤ cap) :
    (Builtin.append_ #[t, t] ty #[.slice a n cap, .slice none 0 c]).run P w = .ok (.slice a n cap) w := by
  cases a <;> simp [Builtin.append_, run_underlying ht, sizeOf, typeInfo, hi, Builtin.lenOf, Builtin.firstCells, loadCells, storeCells, hc]
theorem own_at {w : World} {B n m : Nat} {t : TypeId} {v : Value} {xs : List Value} (h : w.ownsRow B t m v n xs) : ∃ a cap, v = .slice a n cap ∧ n ≤ cap := by
  rcases h.2 with ⟨h1, h0⟩ | ⟨g, c', cur, e, _, _, h3, _⟩
  · exact ⟨none, 0, by rw [h1, h0], by omega⟩
  · exact ⟨_, _, e, h3⟩
theorem wp_append_ownO {P : Program} (w : World) {o : Oper} {a : Act} {K : Act → World → Prop} {Q : Exit → Act → World → Prop} (s x : Operand) (t : TypeId)
    (ho : o.op = .call { callee := .builtin .append, args := #[s, x], argTypes := #[t, t] })
    (base : Nat) (e : TypeId) (i : TypeInfo) (z : Value) (size bytes : Nat) (ht : P.underlying t = some (.slice e)) (hi : P.info? e = some i) (hz : i.zero = some z)
    (hsize : i.size = size) (hby : i.bytes = bytes) (hzs : z.cells.size = size) (hsz : 0 < size)
    (v : Value) (n : Nat) (xs : List Value) (hs : a.eval s = v) (hown : w.ownsRow base e size v n xs)
    (ao : Option Addr) (m c : Nat) (news : List Value) (hx : a.eval x = .slice ao m c) (hl : news.length = m * size) (h0 : ao = none → m = 0) (hnews : ∀ ad, ao = some ad → ∀ j u, news[j]? = some u → w.cell? (ad.add j) = some u) (h1 : ∀ u ∈ news, u.oneCell' = true)
    (h63 : n + m ≤ maxLen) (hbytes : (n + m) * bytes ≤ 140737488355328) (hbase : base ≤ w.heap.size)
    (h : ∀ v' w', w'.ownsRow base e size v' (n + m) (xs ++ news) → w.grownBy w' v.ownBlock → K (a.put o.dst v') w') : o.wp P a w K Q := by
  cases ao with
  | some ad => exact wp_append_own w s x t ho base e i z size bytes ht hi hz hsize hby hzs hsz v n xs hs hown ad m c news hx hl (hnews ad rfl) h1 h63 hbytes hbase fun v' w' h2 h3 _ => h v' w' h2 h3
  | none =>
    obtain rfl := h0 rfl
    obtain rfl : news = [] := List.eq_nil_of_length_eq_zero (by rw [hl]; omega)
    obtain ⟨a', cap, rfl, hc⟩ := own_at hown
    have hr := run_append_nilO (P := P) w t o.type e i ht hi a' n cap c hc
    unfold Oper.wp execOp
    simp only [ho, resolve, invoke, builtin, Sem.run_bind, Sem.run_pure, Result.andThen_ok, List.map_toArray, List.map_cons, List.map_nil, hs, hx, hr]
    exact h _ _ (by rw [List.append_nil]; exact hown) ⟨rfl, rfl, rfl, Nat.le_refl _, fun _ _ _ => rfl⟩
theorem wpList_append_ownO {P : Program} {ops : Array Oper} {rest : List Oper} (w : World) {o : Oper} {a : Act} {Q : Exit → Act → World → Prop} (hgd : o.guard = none) (s x : Operand) (t : TypeId)
    (ho : o.op = .call { callee := .builtin .append, args := #[s, x], argTypes := #[t, t] })
    (base : Nat) (e : TypeId) (i : TypeInfo) (z : Value) (size bytes : Nat) (ht : P.underlying t = some (.slice e)) (hi : P.info? e = some i) (hz : i.zero = some z)
    (hsize : i.size = size) (hby : i.bytes = bytes) (hzs : z.cells.size = size) (hsz : 0 < size)
    (v : Value) (n : Nat) (xs : List Value) (hs : a.eval s = v) (hown : w.ownsRow base e size v n xs)
    (ao : Option Addr) (m c : Nat) (news : List Value) (hx : a.eval x = .slice ao m c) (hl : news.length = m * size) (h0 : ao = none → m = 0) (hnews : ∀ ad, ao = some ad → ∀ j u, news[j]? = some u → w.cell? (ad.add j) = some u) (h1 : ∀ u ∈ news, u.oneCell' = true)
    (h63 : n + m ≤ maxLen) (hbytes : (n + m) * bytes ≤ 140737488355328) (hbase : base ≤ w.heap.size)
    (h : ∀ v' w', w'.ownsRow base e size v' (n + m) (xs ++ news) → w.grownBy w' v.ownBlock → wpList P ops Q rest (a.put o.dst v') w') : wpList P ops Q (o :: rest) a w :=
  wpList_plain hgd fun _ hK => wp_append_ownO w s x t ho base e i z size bytes ht hi hz hsize hby hzs hsz v n xs hs hown ao m c news hx hl h0 hnews h1 h63 hbytes hbase fun v' w' h2 h3 => hK _ _ (h v' w' h2 h3)
theorem stars_cellsO {w : World} {ao : Option Addr} {L : List St} (h : Stars w ao L L.length) (ad : Addr) (he : ao = some ad) (j : Nat) (u : Value) (hj : (flatSt L)[j]? = some u) : w.cell? (ad.add j) = some u := by
  subst he
  rcases h with h0 | ⟨b, o, e, hb, hc⟩
  · have := (List.getElem?_eq_some_iff.1 hj).1
    rw [flatSt_len] at this
    omega
  · cases e
    exact stars_cells (.inr ⟨b, o, rfl, hb, hc⟩) j u hj
theorem stars_none {w : World} {ao : Option Addr} {L : List St} (h : Stars w ao L L.length) (he : ao = none) : L.length = 0 := by
  subst he
  rcases h with h0 | ⟨b, o, e, hb, hc⟩
  · exact h0
  · cases e
end Go.Proofs.YtofpjlhoppofdaaGreatDoor
namespace Go.Proofs.YtofpjlhoppofdaaGreatDoor
open Go.RowKit Go.Sort
set_option linter.unusedVariables false
theorem res_copy (T : Array Value) (X : World) (b : Nat) (v : Value) (lim mode A B C D coast fr : Int) (hT : T.getD 2 undef = .pointer (some ⟨b, 0, none⟩)) (h : TkAt X b v lim mode A B C D coast fr) : (results Tryz.f74 T).run Tryz.prog X = .ok (.agg #[v, .int .i64 lim, .int .i64 mode, .int .i64 A, .int .i64 B, .int .i64 C, .int .i64 D, .int .i64 coast, .int .i64 fr]) X := by
  obtain ⟨h0, h1, h2, h3, h4, h5, h6, h7, h8⟩ := h
  simp only [Array.getD_eq_getD_getElem?] at hT
  simp [results, Tryz.results74, go_sem, hT, h0, h1, h2, h3, h4, h5, h6, h7, h8]
theorem tkO_set10 {w : World} {b : Nat} {u : Value} {lim0 mode0 A0 B0 C0 D0 coast0 fr0 code0 : Int} (h : TkO w b u lim0 mode0 A0 B0 C0 D0 coast0 fr0 code0) (v : Value) (lim mode A B C D coast fr code : Int) : TkO ((((((((((w.setCell ⟨b, 0, none⟩ v).setCell ⟨b, 1, none⟩ (.int .i64 lim)).setCell ⟨b, 2, none⟩ (.int .i64 mode)).setCell ⟨b, 3, none⟩ (.int .i64 A)).setCell ⟨b, 4, none⟩ (.int .i64 B)).setCell ⟨b, 5, none⟩ (.int .i64 C)).setCell ⟨b, 6, none⟩ (.int .i64 D)).setCell ⟨b, 7, none⟩ (.int .i64 coast)).setCell ⟨b, 8, none⟩ (.int .i64 fr)).setCell ⟨b, 9, none⟩ (.int .i64 code)) b v lim mode A B C D coast fr code := by
  obtain ⟨⟨h0, h1, h2, h3, h4, h5, h6, h7, h8⟩, h9⟩ := h
  refine ⟨⟨?_, ?_, ?_, ?_, ?_, ?_, ?_, ?_, ?_⟩, ?_⟩ <;> simp [go_sem, h0, h1, h2, h3, h4, h5, h6, h7, h8, h9]
set_option maxHeartbeats 2000000 in
set_option maxRecDepth 100000 in
theorem l07Copy_any (L : List St) (lim mode A B C D coast fr : Int) (ad : Option Addr) (c : Nat) (w : World) (hn : L.length ≤ 1048576) (hS : Stars w ad L L.length) :
    Calls Tryz.prog 74 #[.agg #[.slice ad L.length c, .int .i64 lim, .int .i64 mode, .int .i64 A, .int .i64 B, .int .i64 C, .int .i64 D, .int .i64 coast, .int .i64 fr]] w fun e w' => ∃ a cap, e = .returned (.agg #[.slice a L.length cap, .int .i64 lim, .int .i64 mode, .int .i64 A, .int .i64 B, .int .i64 C, .int .i64 D, .int .i64 coast, .int .i64 fr]) ∧ Copied w' (w.heap.size + 2) L a cap ∧ Below w.heap.size w w' := by
  have B0 := below3 w (.cells #[.slice ad L.length c, .int .i64 lim, .int .i64 mode, .int .i64 A, .int .i64 B, .int .i64 C, .int .i64 D, .int .i64 coast, .int .i64 fr] 48) (.cells #[.slice none 0 0, .int .i64 0, .int .i64 0, .int .i64 0, .int .i64 0, .int .i64 0, .int .i64 0, .int .i64 0, .int .i64 0] 48) (.cells #[] 78)
  have S1 := yz (hS.kept B0)
  have S0 := ((tkAt_new w (.slice ad L.length c) lim mode A B C D coast fr 48).kept (below1 _ (.cells #[.slice none 0 0, .int .i64 0, .int .i64 0, .int .i64 0, .int .i64 0, .int .i64 0, .int .i64 0, .int .i64 0, .int .i64 0] 48))).kept (below1 _ (.cells #[] 78))
  have R0 := (by simpa using tkAt_new (w.alloc (.cells #[.slice ad L.length c, .int .i64 lim, .int .i64 mode, .int .i64 A, .int .i64 B, .int .i64 C, .int .i64 D, .int .i64 coast, .int .i64 fr] 48)) (.slice none 0 0) 0 0 0 0 0 0 0 0 48 : TkAt ((w.alloc (.cells #[.slice ad L.length c, .int .i64 lim, .int .i64 mode, .int .i64 A, .int .i64 B, .int .i64 C, .int .i64 D, .int .i64 coast, .int .i64 fr] 48)).alloc (.cells #[.slice none 0 0, .int .i64 0, .int .i64 0, .int .i64 0, .int .i64 0, .int .i64 0, .int .i64 0, .int .i64 0, .int .i64 0] 48)) (w.heap.size + 1) (.slice none 0 0) 0 0 0 0 0 0 0 0).kept (below1 _ (.cells #[] 78))
  have F0 := ((freeK_new w #[.slice ad L.length c, .int .i64 lim, .int .i64 mode, .int .i64 A, .int .i64 B, .int .i64 C, .int .i64 D, .int .i64 coast, .int .i64 fr] 48).kept (by simp) (below1 _ (.cells #[.slice none 0 0, .int .i64 0, .int .i64 0, .int .i64 0, .int .i64 0, .int .i64 0, .int .i64 0, .int .i64 0, .int .i64 0] 48))).kept (by simp; omega) (below1 _ (.cells #[] 78))
  have G0 := (by simpa using freeK_new (w.alloc (.cells #[.slice ad L.length c, .int .i64 lim, .int .i64 mode, .int .i64 A, .int .i64 B, .int .i64 C, .int .i64 D, .int .i64 coast, .int .i64 fr] 48)) #[.slice none 0 0, .int .i64 0, .int .i64 0, .int .i64 0, .int .i64 0, .int .i64 0, .int .i64 0, .int .i64 0, .int .i64 0] 48 : FreeK ((w.alloc (.cells #[.slice ad L.length c, .int .i64 lim, .int .i64 mode, .int .i64 A, .int .i64 B, .int .i64 C, .int .i64 D, .int .i64 coast, .int .i64 fr] 48)).alloc (.cells #[.slice none 0 0, .int .i64 0, .int .i64 0, .int .i64 0, .int .i64 0, .int .i64 0, .int .i64 0, .int .i64 0, .int .i64 0] 48)) (w.heap.size + 1)).kept (by simp) (below1 _ (.cells #[] 78))
  have N0 := (by simpa using ownS_none ((w.alloc (.cells #[.slice ad L.length c, .int .i64 lim, .int .i64 mode, .int .i64 A, .int .i64 B, .int .i64 C, .int .i64 D, .int .i64 coast, .int .i64 fr] 48)).alloc (.cells #[.slice none 0 0, .int .i64 0, .int .i64 0, .int .i64 0, .int .i64 0, .int .i64 0, .int .i64 0, .int .i64 0, .int .i64 0] 48)) (w.heap.size + 2) (by simp) : (((w.alloc (.cells #[.slice ad L.length c, .int .i64 lim, .int .i64 mode, .int .i64 A, .int .i64 B, .int .i64 C, .int .i64 D, .int .i64 coast, .int .i64 fr] 48)).alloc (.cells #[.slice none 0 0, .int .i64 0, .int .i64 0, .int .i64 0, .int .i64 0, .int .i64 0, .int .i64 0, .int .i64 0, .int .i64 0] 48)).alloc (.cells #[] 78)).ownsRow (w.heap.size + 2) 78 4 (.slice (some ⟨w.heap.size + 1 + 1, 0, none⟩) 0 0) 0 [])
  have HB := yz B0
  have HS := yz S0
  have HR := yz R0
  have HF := yz F0
  have HG := yz G0
  have HN := yz N0
  clear B0 S0 R0 F0 G0 N0 hS
  obtain ⟨i0, hinf, hz0, hz1, hz2⟩ := info_parts info_star
  go_enter Tryz.func74, Tryz.ntmps74
  go_wp2_with (at_builtin; refine wpList_append_ownO _ rfl _ _ 44 rfl (w.heap.size + 2) 78 i0 (.agg #[.int .i64 0, .int .i64 0, .int .i64 0, .int .i64 0]) 4 32 Tryz.underlying44 hinf hz0 hz1 hz2 rfl (by decide) _ _ _ rfl (yy HN) ad L.length c (flatSt L) rfl (flatSt_len L) (stars_none (yy S1)) (stars_cellsO (yy S1)) (fun u hu => flatSt_one hu) ?d1 ?d2 ?d3 ?_)
  case d1 => have : 1048576 ≤ maxLen := by decide +kernel
             omega
  case d2 => omega
  case d3 => simp
  intro v' w1 ho hg
  obtain ⟨a, cap, rfl, hC⟩ := copied_form ho
  have B1 := yz (belowR (yy HB) hg (yy HB).size (fun g e => by simp [Value.ownBlock] at e; omega))
  have S2 := (yy HS).grown hg (by simp [Value.ownBlock]; omega)
  have R2 := yz ((yy HR).grown hg (by simp [Value.ownBlock]))
  have F2 := yz ((yy HF).grown (yy HS).lt hg (by simp [Value.ownBlock]; omega))
  have G2 := yz ((yy HG).grown (yy HR).lt hg (by simp [Value.ownBlock]))
  have C1 := yz hC
  clear ho hg hC HB HS HR HF HG HN S1
  obtain ⟨s0, s1, s2, s3, s4, s5, s6, s7, s8⟩ := S2
  have S2' : Hid (TkAt w1 w.heap.size (.slice ad L.length c) lim mode A B C D coast fr) := yz ⟨s0, s1, s2, s3, s4, s5, s6, s7, s8⟩
  obtain ⟨r0, r1, r2, r3, r4, r5, r6, r7, r8⟩ := yy R2
  have f0 := yy F2 0
  have g0 := yy G2 0
  have g1 := yy G2 1
  have g2 := yy G2 2
  have g3 := yy G2 3
  have g4 := yy G2 4
  have g5 := yy G2 5
  have g6 := yy G2 6
  have g7 := yy G2 7
  have g8 := yy G2 8
  go_wp2_with fail
  clear s0 s1 s2 s3 s4 s5 s6 s7 s8 r0 r1 r2 r3 r4 r5 r6 r7 r8 f0 g0 g1 g2 g3 g4 g5 g6 g7 g8
  refine bodyPost_ret (v := .agg #[.slice a L.length cap, .int .i64 lim, .int .i64 mode, .int .i64 A, .int .i64 B, .int .i64 C, .int .i64 D, .int .i64 coast, .int .i64 fr]) ?_ rfl ⟨a, cap, rfl, ?_, ?_⟩
  · refine res_copy _ _ (w.heap.size + 1) _ lim mode A B C D coast fr rfl ?_
    refine tkAt_set9 (lim0 := 0) (mode0 := 0) (A0 := 0) (B0 := 0) (C0 := 0) (D0 := 0) (coast0 := 0) (fr0 := 0) (u := .slice none 0 0) ?_ _ lim mode A B C D coast fr
    exact TkAt.far (yy R2) (show w.heap.size + 1 ≠ w.heap.size by omega) _ _
  · iterate 9 (refine Copied.far ?_ (show w.heap.size + 1 < w.heap.size + 2 by omega) _ _)
    exact Copied.far (yy C1) (show w.heap.size < w.heap.size + 2 by omega) _ _
  · iterate 9 (refine belowSet ?_ (show w.heap.size ≤ w.heap.size + 1 by omega) _ _)
    exact belowSet (yy B1) (Nat.le_refl _) _ _
set_option maxHeartbeats 2000000 in
set_option maxRecDepth 100000 in
theorem l07Lost_any (lim mode A B C D coast fr : Int) (a : Option Addr) (n c : Nat) (w : World) :
    Calls Tryz.prog 73 #[.agg #[.slice a n c, .int .i64 lim, .int .i64 mode, .int .i64 A, .int .i64 B, .int .i64 C, .int .i64 D, .int .i64 coast, .int .i64 fr]] w fun e w' => e = .returned (.agg #[.slice a n c, .int .i64 lim, .int .i64 0, .int .i64 0, .int .i64 0, .int .i64 0, .int .i64 0, .int .i64 0, .int .i64 fr]) ∧ Below w.heap.size w w' := by
  go_enter Tryz.func73, Tryz.ntmps73
  go_wp2
  exact bodyPost_ret (v := .agg #[.slice a n c, .int .i64 lim, .int .i64 0, .int .i64 0, .int .i64 0, .int .i64 0, .int .i64 0, .int .i64 0, .int .i64 fr]) (by simp [results, Tryz.results73, go_sem]) rfl ⟨rfl, below2 _ _ _⟩
set_option maxHeartbeats 2000000 in
set_option maxRecDepth 100000 in
theorem l07Ill_any (code : Int) (w : World) :
    Calls Tryz.prog 34 #[.int .i64 code] w fun e w' => e = .returned (.agg #[.slice none 0 0, .int .i64 0, .int .i64 0, .int .i64 0, .int .i64 0, .int .i64 0, .int .i64 0, .int .i64 0, .int .i64 0, .int .i64 code]) ∧ Below w.heap.size w w' := by
  go_enter Tryz.func34, Tryz.ntmps34
  go_wp2
  exact bodyPost_ret (v := .agg #[.slice none 0 0, .int .i64 0, .int .i64 0, .int .i64 0, .int .i64 0, .int .i64 0, .int .i64 0, .int .i64 0, .int .i64 0, .int .i64 code]) (by simp [results, Tryz.results34, go_sem]) rfl ⟨rfl, below1 _ _⟩
end Go.Proofs.YtofpjlhoppofdaaGreatDoor
