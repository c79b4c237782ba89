/- Several texts in one: TurnE. -/
import Derived.Test.YtoakkmjcbnfljaaGreatDoorQFnIdentOwn15
namespace Go.Proofs.YtoakkmjcbnfljaaGreatDoor
set_option linter.unusedVariables false
set_option linter.unusedSimpArgs false
set_option maxRecDepth 100000
set_option maxHeartbeats 8000000
section
open Go.RowKit Go.Sort
theorem uA {a b c d : Int} (h : inT 1000 a b c d = true) (g : Int) (hg : g = sT a b c d) : wrap64 (a.tdiv g) = a.tdiv (sT a b c d) ∧ wrap64 (b.tdiv g) = b.tdiv (sT a b c d) ∧ wrap64 (c.tdiv g) = c.tdiv (sT a b c d) ∧ wrap64 (d.tdiv g) = d.tdiv (sT a b c d) := by
 subst hg
 obtain ⟨x1, x2, x3, x4⟩ := ew.1 h
 have key : ∀ (x s : Int), -1000 ≤ x ∧ x ≤ 1000 → wrap64 (x.tdiv s) = x.tdiv s := fun x s hx => by have := nY (s := s) hx; exact ay (by omega) (by omega)
 exact ⟨key _ _ x1, key _ _ x2, key _ _ x3, key _ _ x4⟩
theorem rk (a b c d : Int) (w : World) (h : inT 1000 a b c d = true) (hz : fy a b c d = false) :
  Calls Tryz.prog 93 #[.agg #[.int .i64 a, .int .i64 b, .int .i64 c, .int .i64 d]] w fun e w' => e = .returned (.agg #[.int .i64 (ofP a b c d a), .int .i64 (ofP a b c d b), .int .i64 (ofP a b c d c), .int .i64 (ofP a b c d d), .int .i64 (ofC a b c d)]) ∧ Below w.heap.size w w' := by
 have HI := yz h
 have HZ := yz hz
 have HN : Hid (sT a b c d ≠ 0) := yz (tR (jX hz))
 have HW := yz (uA h)
 have hw : wrap64 (-gT a b c d) = -gT a b c d := by have := jn h 4; rw [show gS4 a b c d 4 = gT a b c d from kU a b c d] at this; exact ay (by omega) (by omega)
 clear h hz
 go_enter Tryz.func93, Tryz.ntmps93
 go_wp2_with fail
 refine (la a b c d _ (yy HI)).mono ?_
 rintro e w1 ⟨rfl, hB1⟩
 have va : aP w1 w.heap.size a b c d := ((aT w a b c d _).alloc _).kept (by simp; omega) hB1
 have vr : de w1 (w.heap.size + 1) 0 0 0 0 0 := (by simpa using eH (w.alloc _) 0 0 0 0 0 _ : de _ (w.heap.size + 1) 0 0 0 0 0).kept hB1
 have fr : ky w1 (w.heap.size + 1) := (by simpa using mw (w.alloc _) 0 0 0 0 0 _ : ky _ (w.heap.size + 1)).kept (by simp) hB1
 have hB : Below w.heap.size w w1 := aj (bj _ _ _) hB1
 clear hB1
 have hva := va
 obtain ⟨ca0, ca1, ca2, ca3⟩ := va
 go_wp2_with fail
 refine (fH a b c d _).mono ?_
 rintro e w2 ⟨rfl, hB2⟩
 have hlt := vr.lt
 have va := hva.kept hva.lt hB2
 replace vr := vr.kept hB2
 replace fr := fr.kept hlt hB2
 replace hB := aj hB hB2
 clear hB2 hva ca0 ca1 ca2 ca3 hlt
 by_cases hf : fT a b c d < 0
 ·have hs : sT a b c d = -gT a b c d := by unfold sT; rw [if_pos hf]
  have HG := yz hs.symm
  rw [hs] at HN
  have va2 := va.alloc (.cells #[.int .i64 0, .int .i64 0, .int .i64 0, .int .i64 0] 34)
  obtain ⟨ca0, ca1, ca2, ca3⟩ := va
  obtain ⟨cb0, cb1, cb2, cb3⟩ := va2
  go_wp2_with fail
  rw [hw]
  generalize -gT a b c d = g at HN HG ⊢
  clear hw hs hf
  have hne : g ≠ 0 := yy HN
  have hz0 : (g == 0) = false := by simpa using hne
  go_region
  go_wp2_with fail
  obtain ⟨e1, e2, e3, e4⟩ := yy HW g (yy HG)
  rw [e1, e2, e3, e4]
  clear e1 e2 e3 e4 HW cb0 cb1 cb2 cb3 ca0 ca1 ca2 ca3
  cases hr : aC (a.tdiv (sT a b c d)) (b.tdiv (sT a b c d)) (c.tdiv (sT a b c d)) (d.tdiv (sT a b c d))
  ·have HR := yz (qA (yy HI) (yy HZ) hr)
   generalize a.tdiv (sT a b c d) = p at hr ⊢
   generalize b.tdiv (sT a b c d) = q at hr ⊢
   generalize c.tdiv (sT a b c d) = r at hr ⊢
   generalize d.tdiv (sT a b c d) = s at hr ⊢
   have hx := (ak w2 (.cells #[.int .i64 p, .int .i64 q, .int .i64 r, .int .i64 s] 34)).drew
   have hlt := vr.lt
   replace vr := vr.kept hx
   replace fr := fr.kept hlt hx
   replace hB := aj hB hx
   clear hx hlt
   refine (bn p q r s _).mono ?_
   rintro e w3 ⟨rfl, hB3⟩
   rw [hr]
   have hlt := vr.lt
   replace vr := vr.kept hB3
   replace fr := fr.kept hlt hB3
   replace hB := aj hB hB3
   clear hB3 hlt
   obtain ⟨cr0, cr1, cr2, cr3, cr4⟩ := vr
   obtain ⟨fr0, fr1, fr2, fr3, fr4⟩ := fr
   go_wp2_with fail
   exact bodyPost_ret (v := .agg #[.int .i64 0, .int .i64 0, .int .i64 0, .int .i64 0, .int .i64 9]) (by simp [results, Tryz.results93, go_sem, cr0, cr1, cr2, cr3, cr4]) rfl ⟨by rw [yy HR], dB hB (by omega) _ _ _ _ _⟩
  ·have HR := yz (tQ (yy HI) (yy HZ) hr)
   generalize a.tdiv (sT a b c d) = p at hr HR ⊢
   generalize b.tdiv (sT a b c d) = q at hr HR ⊢
   generalize c.tdiv (sT a b c d) = r at hr HR ⊢
   generalize d.tdiv (sT a b c d) = s at hr HR ⊢
   have hx := (ak w2 (.cells #[.int .i64 p, .int .i64 q, .int .i64 r, .int .i64 s] 34)).drew
   have hlt := vr.lt
   have vt1 : aP (w2.alloc (.cells #[.int .i64 p, .int .i64 q, .int .i64 r, .int .i64 s] 34)).drew w2.heap.size p q r s := aT w2 p q r s _
   replace vr := vr.kept hx
   replace fr := fr.kept hlt hx
   replace hB := aj hB hx
   clear hx hlt
   refine (bn p q r s _).mono ?_
   rintro e w3 ⟨rfl, hB3⟩
   rw [hr]
   have hlt := vr.lt
   replace vr := vr.kept hB3
   replace fr := fr.kept hlt hB3
   replace vt1 := vt1.kept vt1.lt hB3
   obtain ⟨ct0, ct1, ct2, ct3⟩ := vt1
   replace hB := aj hB hB3
   clear hB3 hlt
   obtain ⟨cr0, cr1, cr2, cr3, cr4⟩ := vr
   obtain ⟨fr0, fr1, fr2, fr3, fr4⟩ := fr
   go_wp2_with fail
   exact bodyPost_ret (v := .agg #[.int .i64 p, .int .i64 q, .int .i64 r, .int .i64 s, .int .i64 0]) (by simp [results, Tryz.results93, go_sem, cr0, cr1, cr2, cr3, cr4]) rfl ⟨by rw [yy HR], dB hB (by omega) _ _ _ _ _⟩
 ·have hs : sT a b c d = gT a b c d := by unfold sT; rw [if_neg hf]
  have HG := yz hs.symm
  rw [hs] at HN
  have va2 := va.alloc (.cells #[.int .i64 0, .int .i64 0, .int .i64 0, .int .i64 0] 34)
  obtain ⟨ca0, ca1, ca2, ca3⟩ := va
  obtain ⟨cb0, cb1, cb2, cb3⟩ := va2
  go_wp2_with fail
  generalize gT a b c d = g at HN HG ⊢
  clear hw hs hf
  have hne : g ≠ 0 := yy HN
  have hz0 : (g == 0) = false := by simpa using hne
  go_region
  go_wp2_with fail
  obtain ⟨e1, e2, e3, e4⟩ := yy HW g (yy HG)
  rw [e1, e2, e3, e4]
  clear e1 e2 e3 e4 HW cb0 cb1 cb2 cb3 ca0 ca1 ca2 ca3
  cases hr : aC (a.tdiv (sT a b c d)) (b.tdiv (sT a b c d)) (c.tdiv (sT a b c d)) (d.tdiv (sT a b c d))
  ·have HR := yz (qA (yy HI) (yy HZ) hr)
   generalize a.tdiv (sT a b c d) = p at hr ⊢
   generalize b.tdiv (sT a b c d) = q at hr ⊢
   generalize c.tdiv (sT a b c d) = r at hr ⊢
   generalize d.tdiv (sT a b c d) = s at hr ⊢
   have hx := (ak w2 (.cells #[.int .i64 p, .int .i64 q, .int .i64 r, .int .i64 s] 34)).drew
   have hlt := vr.lt
   replace vr := vr.kept hx
   replace fr := fr.kept hlt hx
   replace hB := aj hB hx
   clear hx hlt
   refine (bn p q r s _).mono ?_
   rintro e w3 ⟨rfl, hB3⟩
   rw [hr]
   have hlt := vr.lt
   replace vr := vr.kept hB3
   replace fr := fr.kept hlt hB3
   replace hB := aj hB hB3
   clear hB3 hlt
   obtain ⟨cr0, cr1, cr2, cr3, cr4⟩ := vr
   obtain ⟨fr0, fr1, fr2, fr3, fr4⟩ := fr
   go_wp2_with fail
   exact bodyPost_ret (v := .agg #[.int .i64 0, .int .i64 0, .int .i64 0, .int .i64 0, .int .i64 9]) (by simp [results, Tryz.results93, go_sem, cr0, cr1, cr2, cr3, cr4]) rfl ⟨by rw [yy HR], dB hB (by omega) _ _ _ _ _⟩
  ·have HR := yz (tQ (yy HI) (yy HZ) hr)
   generalize a.tdiv (sT a b c d) = p at hr HR ⊢
   generalize b.tdiv (sT a b c d) = q at hr HR ⊢
   generalize c.tdiv (sT a b c d) = r at hr HR ⊢
   generalize d.tdiv (sT a b c d) = s at hr HR ⊢
   have hx := (ak w2 (.cells #[.int .i64 p, .int .i64 q, .int .i64 r, .int .i64 s] 34)).drew
   have hlt := vr.lt
   have vt1 : aP (w2.alloc (.cells #[.int .i64 p, .int .i64 q, .int .i64 r, .int .i64 s] 34)).drew w2.heap.size p q r s := aT w2 p q r s _
   replace vr := vr.kept hx
   replace fr := fr.kept hlt hx
   replace hB := aj hB hx
   clear hx hlt
   refine (bn p q r s _).mono ?_
   rintro e w3 ⟨rfl, hB3⟩
   rw [hr]
   have hlt := vr.lt
   replace vr := vr.kept hB3
   replace fr := fr.kept hlt hB3
   replace vt1 := vt1.kept vt1.lt hB3
   obtain ⟨ct0, ct1, ct2, ct3⟩ := vt1
   replace hB := aj hB hB3
   clear hB3 hlt
   obtain ⟨cr0, cr1, cr2, cr3, cr4⟩ := vr
   obtain ⟨fr0, fr1, fr2, fr3, fr4⟩ := fr
   go_wp2_with fail
   exact bodyPost_ret (v := .agg #[.int .i64 p, .int .i64 q, .int .i64 r, .int .i64 s, .int .i64 0]) (by simp [results, Tryz.results93, go_sem, cr0, cr1, cr2, cr3, cr4]) rfl ⟨by rw [yy HR], dB hB (by omega) _ _ _ _ _⟩
theorem lD (a b c d : Int) (w : World) :
  Calls Tryz.prog 65 #[.int .i64 a, .int .i64 b, .int .i64 c, .int .i64 d] w fun e w' => e = .returned (.agg #[.int .i64 (ofP a b c d a), .int .i64 (ofP a b c d b), .int .i64 (ofP a b c d c), .int .i64 (ofP a b c d d), .int .i64 (ofC a b c d)]) ∧ Below w.heap.size w w' := by
 go_enter Tryz.func65, Tryz.ntmps65
 go_wp2_with fail
 refine (ii 1000 a b c d _ (by omega) (by omega)).mono ?_
 rintro e w1 ⟨rfl, hB1⟩
 have vr : de w1 w.heap.size 0 0 0 0 0 := ((eH w 0 0 0 0 0 _).alloc _).kept hB1
 have fr : ky w1 w.heap.size := ((mw w 0 0 0 0 0 _).kept (by simp) (ak _ _)).kept (by simp; omega) hB1
 have va : aP w1 (w.heap.size + 1) a b c d := (by simpa using aT (w.alloc _) a b c d _ : aP _ (w.heap.size + 1) a b c d).kept (by simp) hB1
 have hB : Below w.heap.size w w1 := aj (bj _ _ _) hB1
 clear hB1
 cases hi : inT 1000 a b c d
 ·have HR := yz (qz (a := a) (b := b) (c := c) (d := d) (by rw [hi]; rfl))
  obtain ⟨cr0, cr1, cr2, cr3, cr4⟩ := vr
  obtain ⟨fr0, fr1, fr2, fr3, fr4⟩ := fr
  go_wp2_with fail
  exact bodyPost_ret (v := .agg #[.int .i64 0, .int .i64 0, .int .i64 0, .int .i64 0, .int .i64 1]) (by simp [results, Tryz.results65, go_sem, cr0, cr1, cr2, cr3, cr4]) rfl ⟨by rw [yy HR], dB hB (by omega) _ _ _ _ _⟩
 ·have hva := va
  obtain ⟨ca0, ca1, ca2, ca3⟩ := va
  go_wp2_with fail
  refine (fH a b c d _).mono ?_
  rintro e w2 ⟨rfl, hB2⟩
  have hlt := vr.lt
  replace vr := vr.kept hB2
  replace fr := fr.kept hlt hB2
  have va := hva.kept hva.lt hB2
  replace hB := aj hB hB2
  clear hB2 hva ca0 ca1 ca2 ca3 hlt
  by_cases hf : fT a b c d = 0
  ·have HR := yz (qz (a := a) (b := b) (c := c) (d := d) (by rw [gU.2 (kp.1 hf)]; simp))
   rw [hf]
   obtain ⟨cr0, cr1, cr2, cr3, cr4⟩ := vr
   obtain ⟨fr0, fr1, fr2, fr3, fr4⟩ := fr
   go_wp2_with fail
   exact bodyPost_ret (v := .agg #[.int .i64 0, .int .i64 0, .int .i64 0, .int .i64 0, .int .i64 1]) (by simp [results, Tryz.results65, go_sem, cr0, cr1, cr2, cr3, cr4]) rfl ⟨by rw [yy HR], dB hB (by omega) _ _ _ _ _⟩
  ·have HZ : Hid (fy a b c d = false) := yz (by rw [← Bool.not_eq_true, gU]; exact fun e => hf (kp.2 e))
   have hb : (fT a b c d == 0) = false := by simpa using hf
   clear hf
   obtain ⟨ca0, ca1, ca2, ca3⟩ := va
   go_wp2_with fail
   refine (rk a b c d _ hi (yy HZ)).mono ?_
   rintro e w3 ⟨rfl, hB3⟩
   have hlt := vr.lt
   replace vr := vr.kept hB3
   replace fr := fr.kept hlt hB3
   replace hB := aj hB hB3
   clear hB3 ca0 ca1 ca2 ca3 hlt
   obtain ⟨cr0, cr1, cr2, cr3, cr4⟩ := vr
   obtain ⟨fr0, fr1, fr2, fr3, fr4⟩ := fr
   go_wp2_with fail
   exact bodyPost_ret (v := .agg #[.int .i64 (ofP a b c d a), .int .i64 (ofP a b c d b), .int .i64 (ofP a b c d c), .int .i64 (ofP a b c d d), .int .i64 (ofC a b c d)]) (by simp [results, Tryz.results65, go_sem, cr0, cr1, cr2, cr3, cr4]) rfl ⟨rfl, dB hB (by omega) _ _ _ _ _⟩
end
end Go.Proofs.YtoakkmjcbnfljaaGreatDoor
