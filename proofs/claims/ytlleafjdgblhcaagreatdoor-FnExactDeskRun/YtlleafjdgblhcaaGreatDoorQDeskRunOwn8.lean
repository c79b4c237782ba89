/- Several texts in one: TurnG, ModA, ModC, RowR, ModD, ModE, ModG, AppO, ModH, ModB, RowV, ListI. -/
import Derived.Deep.RegionHeld
import Derived.Deep.DeepCutAuto
import Derived.OwnWalk
import Derived.Laws.OwnMore
import Derived.Lib.QuietBelow
import Derived.Deep.QuietTactic
import Derived.BigQuiet
import Derived.Test.YtlleafjdgblhcaaGreatDoorQDeskRunOwn7
import Derived.Test.YtlleafjdgblhcaaGreatDoorQDeskRunOwn2
import Derived.Test.YtlleafjdgblhcaaGreatDoorQDeskRunOwn6
import Derived.Test.YtlleafjdgblhcaaGreatDoorQDeskRunOwn1
namespace Go.Proofs.YtlleafjdgblhcaaGreatDoor
set_option linter.unusedVariables false
set_option linter.unusedSimpArgs false
set_option maxRecDepth 100000
set_option maxHeartbeats 8000000
section
open Go.RowKit Go.Sort
theorem oL {s1 s2 s3 s4 t1 t2 t3 t4 : Int} (h : coR s1 s2 s3 s4 t1 t2 t3 t4 = false) : Value.agg #[.int .i64 (coP s1 s2 s3 s4 t1 t2 t3 t4 (coA s1 s2 s3 s4 t1 t2 t3 t4)), .int .i64 (coP s1 s2 s3 s4 t1 t2 t3 t4 (coB s1 s2 s3 s4 t1 t2 t3 t4)), .int .i64 (coP s1 s2 s3 s4 t1 t2 t3 t4 (coC s1 s2 s3 s4 t1 t2 t3 t4)), .int .i64 (coP s1 s2 s3 s4 t1 t2 t3 t4 (coD s1 s2 s3 s4 t1 t2 t3 t4)), .int .i64 (coK s1 s2 s3 s4 t1 t2 t3 t4)] = Value.agg #[.int .i64 0, .int .i64 0, .int .i64 0, .int .i64 0, .int .i64 1] := by
 unfold coP coK
 rw [h]; rfl
theorem Cq {s1 s2 s3 s4 t1 t2 t3 t4 : Int} (h : coR s1 s2 s3 s4 t1 t2 t3 t4 = true) : Value.agg #[.int .i64 (coP s1 s2 s3 s4 t1 t2 t3 t4 (coA s1 s2 s3 s4 t1 t2 t3 t4)), .int .i64 (coP s1 s2 s3 s4 t1 t2 t3 t4 (coB s1 s2 s3 s4 t1 t2 t3 t4)), .int .i64 (coP s1 s2 s3 s4 t1 t2 t3 t4 (coC s1 s2 s3 s4 t1 t2 t3 t4)), .int .i64 (coP s1 s2 s3 s4 t1 t2 t3 t4 (coD s1 s2 s3 s4 t1 t2 t3 t4)), .int .i64 (coK s1 s2 s3 s4 t1 t2 t3 t4)] = Value.agg #[.int .i64 (ofP (coA s1 s2 s3 s4 t1 t2 t3 t4) (coB s1 s2 s3 s4 t1 t2 t3 t4) (coC s1 s2 s3 s4 t1 t2 t3 t4) (coD s1 s2 s3 s4 t1 t2 t3 t4) (coA s1 s2 s3 s4 t1 t2 t3 t4)), .int .i64 (ofP (coA s1 s2 s3 s4 t1 t2 t3 t4) (coB s1 s2 s3 s4 t1 t2 t3 t4) (coC s1 s2 s3 s4 t1 t2 t3 t4) (coD s1 s2 s3 s4 t1 t2 t3 t4) (coB s1 s2 s3 s4 t1 t2 t3 t4)), .int .i64 (ofP (coA s1 s2 s3 s4 t1 t2 t3 t4) (coB s1 s2 s3 s4 t1 t2 t3 t4) (coC s1 s2 s3 s4 t1 t2 t3 t4) (coD s1 s2 s3 s4 t1 t2 t3 t4) (coC s1 s2 s3 s4 t1 t2 t3 t4)), .int .i64 (ofP (coA s1 s2 s3 s4 t1 t2 t3 t4) (coB s1 s2 s3 s4 t1 t2 t3 t4) (coC s1 s2 s3 s4 t1 t2 t3 t4) (coD s1 s2 s3 s4 t1 t2 t3 t4) (coD s1 s2 s3 s4 t1 t2 t3 t4)), .int .i64 (ofC (coA s1 s2 s3 s4 t1 t2 t3 t4) (coB s1 s2 s3 s4 t1 t2 t3 t4) (coC s1 s2 s3 s4 t1 t2 t3 t4) (coD s1 s2 s3 s4 t1 t2 t3 t4))] := by
 unfold coP coK
 rw [h]; rfl
theorem zH (s1 s2 s3 s4 t1 t2 t3 t4 : Int) (w : World) (hs : inT 5 s1 s2 s3 s4 = true) (ht : inT 5 t1 t2 t3 t4 = true) :
  Calls Tryz.prog 124 #[.agg #[.int .i64 s1, .int .i64 s2, .int .i64 s3, .int .i64 s4], .agg #[.int .i64 t1, .int .i64 t2, .int .i64 t3, .int .i64 t4]] w fun e w' => e = .returned (.agg #[.int .i64 (coA s1 s2 s3 s4 t1 t2 t3 t4), .int .i64 (coB s1 s2 s3 s4 t1 t2 t3 t4), .int .i64 (coC s1 s2 s3 s4 t1 t2 t3 t4), .int .i64 (coD s1 s2 s3 s4 t1 t2 t3 t4)]) ∧ Below w.heap.size w w' := by
 have HA := yz (DI hs ht).1
 have HB := yz (DF hs ht).1
 have HC := yz (DK hs ht).1
 have HD := yz (DG hs ht).1
 clear hs ht
 go_enter Tryz.func124, Tryz.ntmps124
 go_wp2
 rw [yy HA, yy HB, yy HC, yy HD]
 exact bodyPost_ret (v := .agg #[.int .i64 (coA s1 s2 s3 s4 t1 t2 t3 t4), .int .i64 (coB s1 s2 s3 s4 t1 t2 t3 t4), .int .i64 (coC s1 s2 s3 s4 t1 t2 t3 t4), .int .i64 (coD s1 s2 s3 s4 t1 t2 t3 t4)]) (by simp [results, Tryz.results124, go_sem]) rfl ⟨rfl, dW _ _ _ _⟩
theorem kf (s1 s2 s3 s4 t1 t2 t3 t4 : Int) (w : World) (hs : inT 5 s1 s2 s3 s4 = true) (ht : inT 5 t1 t2 t3 t4 = true) :
  Calls Tryz.prog 60 #[.agg #[.int .i64 s1, .int .i64 s2, .int .i64 s3, .int .i64 s4], .agg #[.int .i64 t1, .int .i64 t2, .int .i64 t3, .int .i64 t4]] w fun e w' => e = .returned (.agg #[.int .i64 (ofP (coA s1 s2 s3 s4 t1 t2 t3 t4) (coB s1 s2 s3 s4 t1 t2 t3 t4) (coC s1 s2 s3 s4 t1 t2 t3 t4) (coD s1 s2 s3 s4 t1 t2 t3 t4) (coA s1 s2 s3 s4 t1 t2 t3 t4)), .int .i64 (ofP (coA s1 s2 s3 s4 t1 t2 t3 t4) (coB s1 s2 s3 s4 t1 t2 t3 t4) (coC s1 s2 s3 s4 t1 t2 t3 t4) (coD s1 s2 s3 s4 t1 t2 t3 t4) (coB s1 s2 s3 s4 t1 t2 t3 t4)), .int .i64 (ofP (coA s1 s2 s3 s4 t1 t2 t3 t4) (coB s1 s2 s3 s4 t1 t2 t3 t4) (coC s1 s2 s3 s4 t1 t2 t3 t4) (coD s1 s2 s3 s4 t1 t2 t3 t4) (coC s1 s2 s3 s4 t1 t2 t3 t4)), .int .i64 (ofP (coA s1 s2 s3 s4 t1 t2 t3 t4) (coB s1 s2 s3 s4 t1 t2 t3 t4) (coC s1 s2 s3 s4 t1 t2 t3 t4) (coD s1 s2 s3 s4 t1 t2 t3 t4) (coD s1 s2 s3 s4 t1 t2 t3 t4)), .int .i64 (ofC (coA s1 s2 s3 s4 t1 t2 t3 t4) (coB s1 s2 s3 s4 t1 t2 t3 t4) (coC s1 s2 s3 s4 t1 t2 t3 t4) (coD s1 s2 s3 s4 t1 t2 t3 t4))]) ∧ Below w.heap.size w w' := by
 have HA := yz (DI hs ht).1
 have HB := yz (DF hs ht).1
 have HC := yz (DK hs ht).1
 have HD := yz (DG hs ht).1
 clear hs ht
 go_enter Tryz.func60, Tryz.ntmps60
 go_wp2_with fail
 rw [yy HA, yy HB, yy HC, yy HD]
 refine (pq _ _ _ _ _).mono ?_
 rintro e w1 ⟨rfl, hx⟩
 have vr : fD w1 (w.heap.size + 1 + 1) 0 0 0 0 0 := (by simpa using ec ((w.alloc _).alloc _) 0 0 0 0 0 _ : fD _ (w.heap.size + 1 + 1) 0 0 0 0 0).kept hx
 have fr : ix w1 (w.heap.size + 1 + 1) := (by simpa using fs ((w.alloc _).alloc _) 0 0 0 0 0 _ : ix _ (w.heap.size + 1 + 1)).kept (by simp) hx
 have hB : Below w.heap.size w w1 := ak (dW _ _ _ _) hx
 clear hx HA HB HC HD
 obtain ⟨cr0, cr1, cr2, cr3, cr4⟩ := vr
 obtain ⟨fr0, fr1, fr2, fr3, fr4⟩ := fr
 go_wp2_with fail
 exact bodyPost_ret (v := .agg #[.int .i64 (ofP (coA s1 s2 s3 s4 t1 t2 t3 t4) (coB s1 s2 s3 s4 t1 t2 t3 t4) (coC s1 s2 s3 s4 t1 t2 t3 t4) (coD s1 s2 s3 s4 t1 t2 t3 t4) (coA s1 s2 s3 s4 t1 t2 t3 t4)), .int .i64 (ofP (coA s1 s2 s3 s4 t1 t2 t3 t4) (coB s1 s2 s3 s4 t1 t2 t3 t4) (coC s1 s2 s3 s4 t1 t2 t3 t4) (coD s1 s2 s3 s4 t1 t2 t3 t4) (coB s1 s2 s3 s4 t1 t2 t3 t4)), .int .i64 (ofP (coA s1 s2 s3 s4 t1 t2 t3 t4) (coB s1 s2 s3 s4 t1 t2 t3 t4) (coC s1 s2 s3 s4 t1 t2 t3 t4) (coD s1 s2 s3 s4 t1 t2 t3 t4) (coC s1 s2 s3 s4 t1 t2 t3 t4)), .int .i64 (ofP (coA s1 s2 s3 s4 t1 t2 t3 t4) (coB s1 s2 s3 s4 t1 t2 t3 t4) (coC s1 s2 s3 s4 t1 t2 t3 t4) (coD s1 s2 s3 s4 t1 t2 t3 t4) (coD s1 s2 s3 s4 t1 t2 t3 t4)), .int .i64 (ofC (coA s1 s2 s3 s4 t1 t2 t3 t4) (coB s1 s2 s3 s4 t1 t2 t3 t4) (coC s1 s2 s3 s4 t1 t2 t3 t4) (coD s1 s2 s3 s4 t1 t2 t3 t4))]) (by simp [results, Tryz.results60, go_sem, cr0, cr1, cr2, cr3, cr4]) rfl ⟨rfl, aW hB (by omega) _ _ _ _ _⟩
theorem wk (s1 s2 s3 s4 t1 t2 t3 t4 : Int) (w : World) :
  Calls Tryz.prog 97 #[.agg #[.int .i64 s1, .int .i64 s2, .int .i64 s3, .int .i64 s4], .agg #[.int .i64 t1, .int .i64 t2, .int .i64 t3, .int .i64 t4]] w fun e w' => e = .returned (.agg #[.int .i64 (coP s1 s2 s3 s4 t1 t2 t3 t4 (coA s1 s2 s3 s4 t1 t2 t3 t4)), .int .i64 (coP s1 s2 s3 s4 t1 t2 t3 t4 (coB s1 s2 s3 s4 t1 t2 t3 t4)), .int .i64 (coP s1 s2 s3 s4 t1 t2 t3 t4 (coC s1 s2 s3 s4 t1 t2 t3 t4)), .int .i64 (coP s1 s2 s3 s4 t1 t2 t3 t4 (coD s1 s2 s3 s4 t1 t2 t3 t4)), .int .i64 (coK s1 s2 s3 s4 t1 t2 t3 t4)]) ∧ Below w.heap.size w w' := by
 go_enter Tryz.func97, Tryz.ntmps97
 go_wp2_with fail
 refine (bj s1 s2 s3 s4 _).mono ?_
 rintro e w1 ⟨rfl, hx⟩
 have va : aJ w1 w.heap.size s1 s2 s3 s4 := (((aH w s1 s2 s3 s4 _).alloc _).alloc _).kept (by simp; omega) hx
 have vb : aJ w1 (w.heap.size + 1) t1 t2 t3 t4 := ((by simpa using aH (w.alloc _) t1 t2 t3 t4 _ : aJ _ (w.heap.size + 1) t1 t2 t3 t4).alloc _).kept (by simp) hx
 have vr : fD w1 (w.heap.size + 1 + 1) 0 0 0 0 0 := (by simpa using ec ((w.alloc _).alloc _) 0 0 0 0 0 _ : fD _ (w.heap.size + 1 + 1) 0 0 0 0 0).kept hx
 have fr : ix w1 (w.heap.size + 1 + 1) := (by simpa using fs ((w.alloc _).alloc _) 0 0 0 0 0 _ : ix _ (w.heap.size + 1 + 1)).kept (by simp) hx
 have hB : Below w.heap.size w w1 := ak (dW _ _ _ _) hx
 clear hx
 cases h1 : aA s1 s2 s3 s4
 ·have HR := yz (oL (s1 := s1) (s2 := s2) (s3 := s3) (s4 := s4) (t1 := t1) (t2 := t2) (t3 := t3) (t4 := t4) (by rw [coR, h1]; rfl))
  obtain ⟨cr0, cr1, cr2, cr3, cr4⟩ := vr
  obtain ⟨fr0, fr1, fr2, fr3, fr4⟩ := fr
  go_wp2_with fail
  exact bodyPost_ret (v := .agg #[.int .i64 0, .int .i64 0, .int .i64 0, .int .i64 0, .int .i64 1]) (by simp [results, Tryz.results97, go_sem, cr0, cr1, cr2, cr3, cr4]) rfl ⟨by rw [yy HR], aW hB (by omega) _ _ _ _ _⟩
 ·have wa := va
  have wb := vb
  obtain ⟨ca0, ca1, ca2, ca3⟩ := wa
  obtain ⟨cb0, cb1, cb2, cb3⟩ := wb
  go_wp2_with fail
  clear ca0 ca1 ca2 ca3 cb0 cb1 cb2 cb3
  refine (bj t1 t2 t3 t4 _).mono ?_
  rintro e w2 ⟨rfl, hx⟩
  have hlt := vr.lt
  replace va := va.kept va.lt hx
  replace vb := vb.kept vb.lt hx
  replace vr := vr.kept hx
  replace fr := fr.kept hlt hx
  replace hB := ak hB hx
  clear hx hlt
  cases h2 : aA t1 t2 t3 t4
  ·have HR := yz (oL (s1 := s1) (s2 := s2) (s3 := s3) (s4 := s4) (t1 := t1) (t2 := t2) (t3 := t3) (t4 := t4) (by rw [coR, h1, h2]; rfl))
   obtain ⟨cr0, cr1, cr2, cr3, cr4⟩ := vr
   obtain ⟨fr0, fr1, fr2, fr3, fr4⟩ := fr
   go_wp2_with fail
   exact bodyPost_ret (v := .agg #[.int .i64 0, .int .i64 0, .int .i64 0, .int .i64 0, .int .i64 1]) (by simp [results, Tryz.results97, go_sem, cr0, cr1, cr2, cr3, cr4]) rfl ⟨by rw [yy HR], aW hB (by omega) _ _ _ _ _⟩
  ·have wa := va
   have wb := vb
   obtain ⟨ca0, ca1, ca2, ca3⟩ := wa
   obtain ⟨cb0, cb1, cb2, cb3⟩ := wb
   go_wp2_with fail
   clear ca0 ca1 ca2 ca3 cb0 cb1 cb2 cb3
   have HR := yz (Cq (s1 := s1) (s2 := s2) (s3 := s3) (s4 := s4) (t1 := t1) (t2 := t2) (t3 := t3) (t4 := t4) (by rw [coR, h1, h2]; rfl))
   refine (zH s1 s2 s3 s4 t1 t2 t3 t4 _ (aZ.1 h1).1 (aZ.1 h2).1).mono ?_
   rintro e w3 ⟨rfl, hx⟩
   have hlt := vr.lt
   replace vr := (vr.kept hx).alloc (.cells #[.int .i64 (coA s1 s2 s3 s4 t1 t2 t3 t4), .int .i64 (coB s1 s2 s3 s4 t1 t2 t3 t4), .int .i64 (coC s1 s2 s3 s4 t1 t2 t3 t4), .int .i64 (coD s1 s2 s3 s4 t1 t2 t3 t4)] 32)
   replace fr := (fr.kept hlt hx).kept (Nat.lt_of_lt_of_le hlt hx.size) (an _ (.cells #[.int .i64 (coA s1 s2 s3 s4 t1 t2 t3 t4), .int .i64 (coB s1 s2 s3 s4 t1 t2 t3 t4), .int .i64 (coC s1 s2 s3 s4 t1 t2 t3 t4), .int .i64 (coD s1 s2 s3 s4 t1 t2 t3 t4)] 32))
   replace hB := (ak hB hx).alloc (ak hB hx).size (.cells #[.int .i64 (coA s1 s2 s3 s4 t1 t2 t3 t4), .int .i64 (coB s1 s2 s3 s4 t1 t2 t3 t4), .int .i64 (coC s1 s2 s3 s4 t1 t2 t3 t4), .int .i64 (coD s1 s2 s3 s4 t1 t2 t3 t4)] 32)
   clear hx hlt va vb
   go_wp2_with fail
   refine (xR _ _ _ _ _).mono ?_
   rintro e w4 ⟨rfl, hx⟩
   have hlt := vr.lt
   replace vr := vr.kept hx
   replace fr := fr.kept hlt hx
   replace hB := ak hB hx
   clear hx hlt
   obtain ⟨cr0, cr1, cr2, cr3, cr4⟩ := vr
   obtain ⟨fr0, fr1, fr2, fr3, fr4⟩ := fr
   go_wp2_with fail
   exact bodyPost_ret (v := .agg #[.int .i64 (ofP (coA s1 s2 s3 s4 t1 t2 t3 t4) (coB s1 s2 s3 s4 t1 t2 t3 t4) (coC s1 s2 s3 s4 t1 t2 t3 t4) (coD s1 s2 s3 s4 t1 t2 t3 t4) (coA s1 s2 s3 s4 t1 t2 t3 t4)), .int .i64 (ofP (coA s1 s2 s3 s4 t1 t2 t3 t4) (coB s1 s2 s3 s4 t1 t2 t3 t4) (coC s1 s2 s3 s4 t1 t2 t3 t4) (coD s1 s2 s3 s4 t1 t2 t3 t4) (coB s1 s2 s3 s4 t1 t2 t3 t4)), .int .i64 (ofP (coA s1 s2 s3 s4 t1 t2 t3 t4) (coB s1 s2 s3 s4 t1 t2 t3 t4) (coC s1 s2 s3 s4 t1 t2 t3 t4) (coD s1 s2 s3 s4 t1 t2 t3 t4) (coC s1 s2 s3 s4 t1 t2 t3 t4)), .int .i64 (ofP (coA s1 s2 s3 s4 t1 t2 t3 t4) (coB s1 s2 s3 s4 t1 t2 t3 t4) (coC s1 s2 s3 s4 t1 t2 t3 t4) (coD s1 s2 s3 s4 t1 t2 t3 t4) (coD s1 s2 s3 s4 t1 t2 t3 t4)), .int .i64 (ofC (coA s1 s2 s3 s4 t1 t2 t3 t4) (coB s1 s2 s3 s4 t1 t2 t3 t4) (coC s1 s2 s3 s4 t1 t2 t3 t4) (coD s1 s2 s3 s4 t1 t2 t3 t4))]) (by simp [results, Tryz.results97, go_sem, cr0, cr1, cr2, cr3, cr4]) rfl ⟨by rw [yy HR], aW hB (by omega) _ _ _ _ _⟩
theorem ow (s1 s2 s3 s4 t1 t2 t3 t4 : Int) (w : World) :
  Calls Tryz.prog 37 #[.agg #[.int .i64 s1, .int .i64 s2, .int .i64 s3, .int .i64 s4], .agg #[.int .i64 t1, .int .i64 t2, .int .i64 t3, .int .i64 t4]] w fun e w' => e = .returned (.agg #[.int .i64 (coP s1 s2 s3 s4 t1 t2 t3 t4 (coA s1 s2 s3 s4 t1 t2 t3 t4)), .int .i64 (coP s1 s2 s3 s4 t1 t2 t3 t4 (coB s1 s2 s3 s4 t1 t2 t3 t4)), .int .i64 (coP s1 s2 s3 s4 t1 t2 t3 t4 (coC s1 s2 s3 s4 t1 t2 t3 t4)), .int .i64 (coP s1 s2 s3 s4 t1 t2 t3 t4 (coD s1 s2 s3 s4 t1 t2 t3 t4)), .int .i64 (coK s1 s2 s3 s4 t1 t2 t3 t4)]) ∧ Below w.heap.size w w' := by
 go_enter Tryz.func37, Tryz.ntmps37
 go_wp2_with fail
 refine (bf s1 s2 s3 s4 _).mono ?_
 rintro e w1 ⟨rfl, hx⟩
 have va : aJ w1 w.heap.size s1 s2 s3 s4 := (((aH w s1 s2 s3 s4 _).alloc _).alloc _).kept (by simp; omega) hx
 have vb : aJ w1 (w.heap.size + 1) t1 t2 t3 t4 := ((by simpa using aH (w.alloc _) t1 t2 t3 t4 _ : aJ _ (w.heap.size + 1) t1 t2 t3 t4).alloc _).kept (by simp) hx
 have vr : fD w1 (w.heap.size + 1 + 1) 0 0 0 0 0 := (by simpa using ec ((w.alloc _).alloc _) 0 0 0 0 0 _ : fD _ (w.heap.size + 1 + 1) 0 0 0 0 0).kept hx
 have fr : ix w1 (w.heap.size + 1 + 1) := (by simpa using fs ((w.alloc _).alloc _) 0 0 0 0 0 _ : ix _ (w.heap.size + 1 + 1)).kept (by simp) hx
 have hB : Below w.heap.size w w1 := ak (dW _ _ _ _) hx
 clear hx
 cases h1 : aA s1 s2 s3 s4
 ·have HR := yz (oL (s1 := s1) (s2 := s2) (s3 := s3) (s4 := s4) (t1 := t1) (t2 := t2) (t3 := t3) (t4 := t4) (by rw [coR, h1]; rfl))
  obtain ⟨cr0, cr1, cr2, cr3, cr4⟩ := vr
  obtain ⟨fr0, fr1, fr2, fr3, fr4⟩ := fr
  go_wp2_with fail
  exact bodyPost_ret (v := .agg #[.int .i64 0, .int .i64 0, .int .i64 0, .int .i64 0, .int .i64 1]) (by simp [results, Tryz.results37, go_sem, cr0, cr1, cr2, cr3, cr4]) rfl ⟨by rw [yy HR], aW hB (by omega) _ _ _ _ _⟩
 ·have wa := va
  have wb := vb
  obtain ⟨ca0, ca1, ca2, ca3⟩ := wa
  obtain ⟨cb0, cb1, cb2, cb3⟩ := wb
  go_wp2_with fail
  clear ca0 ca1 ca2 ca3 cb0 cb1 cb2 cb3
  refine (bf t1 t2 t3 t4 _).mono ?_
  rintro e w2 ⟨rfl, hx⟩
  have hlt := vr.lt
  replace va := va.kept va.lt hx
  replace vb := vb.kept vb.lt hx
  replace vr := vr.kept hx
  replace fr := fr.kept hlt hx
  replace hB := ak hB hx
  clear hx hlt
  cases h2 : aA t1 t2 t3 t4
  ·have HR := yz (oL (s1 := s1) (s2 := s2) (s3 := s3) (s4 := s4) (t1 := t1) (t2 := t2) (t3 := t3) (t4 := t4) (by rw [coR, h1, h2]; rfl))
   obtain ⟨cr0, cr1, cr2, cr3, cr4⟩ := vr
   obtain ⟨fr0, fr1, fr2, fr3, fr4⟩ := fr
   go_wp2_with fail
   exact bodyPost_ret (v := .agg #[.int .i64 0, .int .i64 0, .int .i64 0, .int .i64 0, .int .i64 1]) (by simp [results, Tryz.results37, go_sem, cr0, cr1, cr2, cr3, cr4]) rfl ⟨by rw [yy HR], aW hB (by omega) _ _ _ _ _⟩
  ·have wa := va
   have wb := vb
   obtain ⟨ca0, ca1, ca2, ca3⟩ := wa
   obtain ⟨cb0, cb1, cb2, cb3⟩ := wb
   go_wp2_with fail
   clear ca0 ca1 ca2 ca3 cb0 cb1 cb2 cb3
   have HR := yz (Cq (s1 := s1) (s2 := s2) (s3 := s3) (s4 := s4) (t1 := t1) (t2 := t2) (t3 := t3) (t4 := t4) (by rw [coR, h1, h2]; rfl))
   refine (kf s1 s2 s3 s4 t1 t2 t3 t4 _ (aZ.1 h1).1 (aZ.1 h2).1).mono ?_
   rintro e w3 ⟨rfl, hx⟩
   have hlt := vr.lt
   replace vr := vr.kept hx
   replace fr := fr.kept hlt hx
   replace hB := ak hB hx
   clear hx hlt va vb
   obtain ⟨cr0, cr1, cr2, cr3, cr4⟩ := vr
   obtain ⟨fr0, fr1, fr2, fr3, fr4⟩ := fr
   go_wp2_with fail
   exact bodyPost_ret (v := .agg #[.int .i64 (ofP (coA s1 s2 s3 s4 t1 t2 t3 t4) (coB s1 s2 s3 s4 t1 t2 t3 t4) (coC s1 s2 s3 s4 t1 t2 t3 t4) (coD s1 s2 s3 s4 t1 t2 t3 t4) (coA s1 s2 s3 s4 t1 t2 t3 t4)), .int .i64 (ofP (coA s1 s2 s3 s4 t1 t2 t3 t4) (coB s1 s2 s3 s4 t1 t2 t3 t4) (coC s1 s2 s3 s4 t1 t2 t3 t4) (coD s1 s2 s3 s4 t1 t2 t3 t4) (coB s1 s2 s3 s4 t1 t2 t3 t4)), .int .i64 (ofP (coA s1 s2 s3 s4 t1 t2 t3 t4) (coB s1 s2 s3 s4 t1 t2 t3 t4) (coC s1 s2 s3 s4 t1 t2 t3 t4) (coD s1 s2 s3 s4 t1 t2 t3 t4) (coC s1 s2 s3 s4 t1 t2 t3 t4)), .int .i64 (ofP (coA s1 s2 s3 s4 t1 t2 t3 t4) (coB s1 s2 s3 s4 t1 t2 t3 t4) (coC s1 s2 s3 s4 t1 t2 t3 t4) (coD s1 s2 s3 s4 t1 t2 t3 t4) (coD s1 s2 s3 s4 t1 t2 t3 t4)), .int .i64 (ofC (coA s1 s2 s3 s4 t1 t2 t3 t4) (coB s1 s2 s3 s4 t1 t2 t3 t4) (coC s1 s2 s3 s4 t1 t2 t3 t4) (coD s1 s2 s3 s4 t1 t2 t3 t4))]) (by simp [results, Tryz.results37, go_sem, cr0, cr1, cr2, cr3, cr4]) rfl ⟨by rw [yy HR], aW hB (by omega) _ _ _ _ _⟩
def dQ (w : World) (b : Nat) (v : Value) (lim mode A B C D coast fr : Int) : Prop := w.cell? ⟨b, 0, none⟩ = some v ∧ w.cell? ⟨b, 1, none⟩ = some (.int .i64 lim) ∧ w.cell? ⟨b, 2, none⟩ = some (.int .i64 mode) ∧ w.cell? ⟨b, 3, none⟩ = some (.int .i64 A) ∧ w.cell? ⟨b, 4, none⟩ = some (.int .i64 B) ∧ w.cell? ⟨b, 5, none⟩ = some (.int .i64 C) ∧ w.cell? ⟨b, 6, none⟩ = some (.int .i64 D) ∧ w.cell? ⟨b, 7, none⟩ = some (.int .i64 coast) ∧ w.cell? ⟨b, 8, none⟩ = some (.int .i64 fr)
theorem lf {w w' : World} {a : Addr} {v : Value} (h : w.cell? a = some v) (hB : Below w.heap.size w w') : w'.cell? a = some v := (hB.cell (World.block_lt_of_cell? w a h)).trans h
theorem dQ.kept {w w' : World} {b : Nat} {v : Value} {lim mode A B C D coast fr : Int} (h : dQ w b v lim mode A B C D coast fr) (hB : Below w.heap.size w w') : dQ w' b v lim mode A B C D coast fr := by
 obtain ⟨h0, h1, h2, h3, h4, h5, h6, h7, h8⟩ := h
 exact ⟨lf h0 hB, lf h1 hB, lf h2 hB, lf h3 hB, lf h4 hB, lf h5 hB, lf h6 hB, lf h7 hB, lf h8 hB⟩
theorem dy (w : World) (v : Value) (lim mode A B C D coast fr : Int) (t : TypeId) : dQ (w.alloc (.cells #[v, .int .i64 lim, .int .i64 mode, .int .i64 A, .int .i64 B, .int .i64 C, .int .i64 D, .int .i64 coast, .int .i64 fr] t)) w.heap.size v lim mode A B C D coast fr := by
 refine ⟨?_, ?_, ?_, ?_, ?_, ?_, ?_, ?_, ?_⟩ <;> simp
theorem dQ.lt {w : World} {b : Nat} {v : Value} {lim mode A B C D coast fr : Int} (h : dQ w b v lim mode A B C D coast fr) : b < w.heap.size := World.block_lt_of_cell? w _ h.1
theorem gk (L : List St) (lim mode A B C D coast fr : Int) (a : Option Addr) (c : Nat) (p : Addr) (w : World) (hn : L.length ≤ 1048576) (hcap : L.length ≤ c) (hc9 : c ≤ 9223372036854775807) (hS : aR w a L L.length) (hE : bu p w) :
  Calls Tryz.prog 53 #[.agg #[.slice a L.length c, .int .i64 lim, .int .i64 mode, .int .i64 A, .int .i64 B, .int .i64 C, .int .i64 D, .int .i64 coast, .int .i64 fr]] w fun e w' => e = .returned (.bool (aD ⟨L, lim, mode, A, B, C, D, coast, fr⟩)) ∧ Below w.heap.size w w' := by
 have B0 := an w (.cells #[.slice a L.length c, .int .i64 lim, .int .i64 mode, .int .i64 A, .int .i64 B, .int .i64 C, .int .i64 D, .int .i64 coast, .int .i64 fr] 34)
 have T0 := dy w (.slice a L.length c) lim mode A B C D coast fr 34
 have cS := yz (eO L a c p _ hn hcap hc9 (hS.kept B0) (hE.kept B0))
 have HB0 := yz B0
 have HT0 := yz T0
 clear B0 T0 hS hE hn hcap hc9
 go_enter Tryz.func53, Tryz.ntmps53
 go_wp2_with fail
 refine (yy cS).mono ?_
 rintro e w1 ⟨rfl, hx⟩
 have T1 := yz ((yy HT0).kept hx)
 have B1 := yz (ak (yy HB0) hx)
 clear hx cS HT0 HB0
 obtain ⟨c0, c1, c2, c3, c4, c5, c6, c7, c8⟩ := yy T1
 cases hk : aV L
 ·have HO := yz (kz (t := ⟨L, lim, mode, A, B, C, D, coast, fr⟩) hk)
  go_wp2_with fail
  go_ret
  exact ⟨by rw [yy HO]; rfl, yy B1⟩
 by_cases q1 : lim < 1
 ·have HO := yz (kM (t := ⟨L, lim, mode, A, B, C, D, coast, fr⟩) (qk (by show ¬ 1 ≤ lim; omega)))
  go_wp2_with fail
  go_ret
  exact ⟨by rw [yy HO]; rfl, yy B1⟩
 by_cases q2 : (5 : Int) < lim
 ·have HO := yz (kM (t := ⟨L, lim, mode, A, B, C, D, coast, fr⟩) (rz (by show ¬ lim ≤ 5; omega)))
  go_wp2_with fail
  go_ret
  exact ⟨by rw [yy HO]; rfl, yy B1⟩
 by_cases q3 : fr < 0
 ·have HO := yz (kB (t := ⟨L, lim, mode, A, B, C, D, coast, fr⟩) (qk (by show ¬ 0 ≤ fr; omega)))
  go_wp2_with fail
  go_ret
  exact ⟨by rw [yy HO]; rfl, yy B1⟩
 by_cases q4 : (1000000 : Int) < fr
 ·have HO := yz (kB (t := ⟨L, lim, mode, A, B, C, D, coast, fr⟩) (rz (by show ¬ fr ≤ 1000000; omega)))
  go_wp2_with fail
  go_ret
  exact ⟨by rw [yy HO]; rfl, yy B1⟩
 have HH := yz (ly (t := ⟨L, lim, mode, A, B, C, D, coast, fr⟩) hk (mf (by show 1 ≤ lim; omega) (by show lim ≤ 5; omega)) (mf (by show 0 ≤ fr; omega) (by show fr ≤ 1000000; omega)))
 clear hk
 by_cases m0 : mode = 0
 ·have HO : Hid (aD ⟨L, lim, mode, A, B, C, D, coast, fr⟩ = (eqT A B C D 0 0 0 0 && decide (coast = 0))) := yz (by rw [yy HH, xl m0])
  have hq := fun W => mh A B C D 0 0 0 0 W
  cases hz : eqT A B C D 0 0 0 0
  ·rw [hz] at HO hq
   go_wp2_with fail
   go_ret
   exact ⟨by rw [yy HO]; rfl, yy B1⟩
  ·rw [hz] at HO hq
   go_wp2_with fail
   go_ret
   exact ⟨by rw [yy HO]; rfl, yy B1⟩
 by_cases m1 : mode = 1
 ·have HO : Hid (aD ⟨L, lim, mode, A, B, C, D, coast, fr⟩ = (aA A B C D && decide (coast = 0))) := yz (by rw [yy HH, kh m1])
  subst m1
  go_wp2_with fail
  refine (bj A B C D _).mono ?_
  rintro e w2 ⟨rfl, hx⟩
  have B2 := yz (ak (yy B1) hx)
  obtain ⟨d0, d1, d2, d3, d4, d5, d6, d7, d8⟩ := (yy T1).kept hx
  clear hx c0 c1 c2 c3 c4 c5 c6 c7 c8
  cases hz : aA A B C D
  ·rw [hz] at HO
   go_wp2_with fail
   go_ret
   exact ⟨by rw [yy HO]; rfl, yy B2⟩
  ·rw [hz] at HO
   go_wp2_with fail
   go_ret
   exact ⟨by rw [yy HO]; rfl, yy B2⟩
 by_cases m2 : mode = 2
 ·have HO : Hid (aD ⟨L, lim, mode, A, B, C, D, coast, fr⟩ = (aA A B C D && dv 1 lim coast)) := yz (by rw [yy HH, lQ m2])
  subst m2
  go_wp2_with fail
  refine (bj A B C D _).mono ?_
  rintro e w2 ⟨rfl, hx⟩
  have B2 := yz (ak (yy B1) hx)
  obtain ⟨d0, d1, d2, d3, d4, d5, d6, d7, d8⟩ := (yy T1).kept hx
  clear hx c0 c1 c2 c3 c4 c5 c6 c7 c8
  cases hz : aA A B C D
  ·rw [hz] at HO
   go_wp2_with fail
   go_ret
   exact ⟨by rw [yy HO]; rfl, yy B2⟩
  ·rw [hz] at HO
   by_cases u1 : 1 ≤ coast
   ·have HU : Hid (dv 1 lim coast = decide (coast ≤ lim)) := yz (by unfold dv; rw [decide_eq_true u1]; rfl)
    go_wp2_with fail
    go_ret
    exact ⟨by rw [yy HO, yy HU]; rfl, yy B2⟩
   ·have HU : Hid (dv 1 lim coast = false) := yz (qk u1)
    go_wp2_with fail
    go_ret
    exact ⟨by rw [yy HO, yy HU]; rfl, yy B2⟩
 ·have HO : Hid (aD ⟨L, lim, mode, A, B, C, D, coast, fr⟩ = false) := yz (by rw [yy HH, mY m0 m1 m2])
  go_wp2_with fail
  go_ret
  exact ⟨by rw [yy HO]; rfl, yy B1⟩
def wj (w : World) (a : Option Addr) (n : Nat) (row : Option Nat) : Prop := (n = 0 ∧ row = none) ∨ ∃ g f, a = some ⟨g, 0, none⟩ ∧ row = some g ∧ eR w 60 g (n * 4) f
def Mkd (w : World) (a : Option Addr) (n : Nat) (row : Option Nat) : Prop := (n = 0 ∧ row = none) ∨ ∃ g, a = some ⟨g, 0, none⟩ ∧ row = some g ∧ eR w 60 g (n * 4) (fun j => 1 + (j : Int))
theorem wj.kept {w w' : World} {a : Option Addr} {n : Nat} {row : Option Nat} (h : wj w a n row) (hB : Below w.heap.size w w') : wj w' a n row := by
 rcases h with h | ⟨g, f, h1, h2, h3⟩
 ·exact .inl h
 ·exact .inr ⟨g, f, h1, h2, h3.kept hB⟩
theorem Mkd.kept {w w' : World} {a : Option Addr} {n : Nat} {row : Option Nat} (h : Mkd w a n row) (hB : Below w.heap.size w w') : Mkd w' a n row := by
 rcases h with h | ⟨g, h1, h2, h3⟩
 ·exact .inl h
 ·exact .inr ⟨g, h1, h2, h3.kept hB⟩
theorem wj.lt {w : World} {a : Option Addr} {n : Nat} {row : Option Nat} (h : wj w a n row) {g : Nat} (e : row = some g) : g < w.heap.size := by
 rcases h with ⟨_, h⟩ | ⟨g', f, h1, h2, h3⟩
 ·rw [h] at e; cases e
 ·rw [h2] at e; obtain rfl := Option.some.inj e; exact h3.lt
theorem nK {B : Nat} {w w1 w2 : World} {row : Option Nat} (h : Below B w w1) (hg : w1.grownBy w2 row) (hB : B ≤ w1.heap.size) (hr : ∀ g, row = some g → B ≤ g) : Below B w w2 :=
 h.trans ⟨hg.os, hg.tape, hg.output, hg.size, fun k hk => hg.block k (by omega) (fun e => by have := hr k e.symm; omega)⟩
def dt (L : List St) : List Value := L.flatMap stC
theorem gY (L : List St) : (dt L).length = L.length * 4 := by
 unfold dt
 induction L with
 | nil => rfl
 | cons x l ih => simp [List.flatMap_cons, stC] at *; omega
theorem nw (L : List St) : ∀ (i : Nat), i < L.length → (dt L)[i * 4]? = some (.int .i64 (stA L i).1) ∧ (dt L)[i * 4 + 1]? = some (.int .i64 (stA L i).2.1) ∧ (dt L)[i * 4 + 2]? = some (.int .i64 (stA L i).2.2.1) ∧ (dt L)[i * 4 + 3]? = some (.int .i64 (stA L i).2.2.2) := by
 induction L with
 | nil => intro i hi; simp at hi
 | cons x l ih =>
  intro i hi
  match i with
  | 0 => exact ⟨rfl, rfl, rfl, rfl⟩
  | i + 1 =>
   have h := ih i (by simpa using hi)
   have e : ∀ r, (dt (x :: l))[(i + 1) * 4 + r]? = (dt l)[i * 4 + r]? := fun r => by
    rw [show (i + 1) * 4 + r = (i * 4 + r) + 4 by omega]
    rfl
   have e2 : stA (x :: l) (i + 1) = stA l i := rfl
   rw [e2]
   exact ⟨by have := e 0; simp only [Nat.add_zero] at this; rw [this]; exact h.1, by rw [e 1]; exact h.2.1, by rw [e 2]; exact h.2.2.1, by rw [e 3]; exact h.2.2.2⟩
theorem nL {w : World} {B : Nat} {v : Value} {L : List St} (h : w.ownsRow B 60 4 v L.length (dt L)) : ∃ a cap, v = .slice a L.length cap ∧ L.length ≤ cap ∧ cap ≤ maxLen ∧ aR w a L L.length := by
 rcases h.2 with ⟨h1, h0⟩ | ⟨g, cap, cur, hv, hb, hg, hnc, hcm, hcs, htake⟩
 ·exact ⟨none, 0, by rw [h1, h0], by omega, Nat.zero_le _, .inl h0⟩
 ·refine ⟨_, cap, hv, hnc, hcm, .inr ⟨g, 0, rfl, (Array.getElem?_eq_some_iff.1 hg).1, fun i hi => ?_⟩⟩
  have hc : ∀ j, j < L.length * 4 → w.cell? ⟨g, j, none⟩ = (dt L)[j]? := fun j hj => by
   rw [cell_of_row w g j cur _ _ hg, ← htake, List.getElem?_take, if_pos hj]
   simp
  obtain ⟨e0, e1, e2, e3⟩ := nw L i hi
  rw [Nat.zero_add]
  exact ⟨by rw [hc _ (by omega)]; exact e0, by rw [hc _ (by omega)]; exact e1, by rw [hc _ (by omega)]; exact e2, by rw [hc _ (by omega)]; exact e3⟩
theorem qH (L : List St) (j : Nat) (hj : j < L.length * 4) : ∃ z, (dt L)[j]? = some (.int .i64 z) := by
 obtain ⟨e0, e1, e2, e3⟩ := nw L (j / 4) (by omega)
 have h : j = j / 4 * 4 ∨ j = j / 4 * 4 + 1 ∨ j = j / 4 * 4 + 2 ∨ j = j / 4 * 4 + 3 := by omega
 rcases h with h | h | h | h
 ·rw [h]; exact ⟨_, e0⟩
 ·rw [h]; exact ⟨_, e1⟩
 ·rw [h]; exact ⟨_, e2⟩
 ·rw [h]; exact ⟨_, e3⟩
theorem CJ {w : World} {B : Nat} {v : Value} {L : List St} {a : Option Addr} {cap : Nat} (h : w.ownsRow B 60 4 v L.length (dt L)) (hv : v = .slice a L.length cap) : ∃ row, wj w a L.length row ∧ ∀ g, row = some g → B ≤ g := by
 rcases h.2 with ⟨h1, h0⟩ | ⟨g, cap', cur, hv', hb, hg, hnc, hcm, hcs, htake⟩
 ·exact ⟨none, .inl ⟨h0, rfl⟩, fun g e => by cases e⟩
 ·rw [hv] at hv'
  injection hv' with e1 e2 e3
  refine ⟨some g, .inr ⟨g, fun j => if h : j < L.length * 4 then Classical.choose (qH L j h) else 0, e1, rfl, cur, hg, fun j hj => ?_⟩, fun g' e => by obtain rfl := Option.some.inj e; exact hb⟩
  have e4 : cur[j]? = (dt L)[j]? := by
   rw [← htake, List.getElem?_take, if_pos hj]
   simp
  rw [e4]
  simp only [hj, dif_pos]
  exact Classical.choose_spec (qH L j hj)
def fF (w : World) (b : Nat) : Prop := ∀ i, w.frozen? ⟨b, i, none⟩ = false
theorem fF.kept {w w' : World} {b : Nat} (h : fF w b) (hb : b < w.heap.size) (hB : Below w.heap.size w w') : fF w' b := fun i => (hB.frozen (p := ⟨b, i, none⟩) hb).trans (h i)
theorem du (w : World) (cs : Array Value) (t : TypeId) : fF (w.alloc (.cells cs t)) w.heap.size := fun i => by simp
theorem fF.set {w : World} {b : Nat} (h : fF w b) (p : Addr) (v : Value) : fF (w.setCell p v) b := fun i => by rw [World.frozen?_setCell]; exact h i
theorem mc.far {w : World} {b n k : Nat} {L : List St} (h : mc w b n L k) {b' : Nat} (hne : b ≠ b') (o : Nat) (x : Value) : mc (w.setCell ⟨b', o, none⟩ x) b n L k := by
 obtain ⟨cur, hc, r⟩ := h
 exact ⟨cur, by rw [Below.heap_setCell w ⟨b', o, none⟩ x b hne]; exact hc, r⟩
theorem dQ.far {w : World} {b : Nat} {v : Value} {lim mode A B C D coast fr : Int} (h : dQ w b v lim mode A B C D coast fr) {b' : Nat} (hne : b ≠ b') (o : Nat) (x : Value) : dQ (w.setCell ⟨b', o, none⟩ x) b v lim mode A B C D coast fr := by
 obtain ⟨h0, h1, h2, h3, h4, h5, h6, h7, h8⟩ := h
 refine ⟨?_, ?_, ?_, ?_, ?_, ?_, ?_, ?_, ?_⟩ <;> (rw [World.cell?_setCell_far _ _ _ _ (Ne.symm hne)]; assumption)
theorem dM {w : World} {b : Nat} {u : Value} {lim0 mode0 A0 B0 C0 D0 coast0 fr0 : Int} (h : dQ w b u lim0 mode0 A0 B0 C0 D0 coast0 fr0) (v : Value) (lim mode A B C D coast fr : Int) : dQ (((((((((w.setCell ⟨b, 0, none⟩ v).setCell ⟨b, 1, none⟩ (.int .i64 lim)).setCell ⟨b, 2, none⟩ (.int .i64 mode)).setCell ⟨b, 3, none⟩ (.int .i64 A)).setCell ⟨b, 4, none⟩ (.int .i64 B)).setCell ⟨b, 5, none⟩ (.int .i64 C)).setCell ⟨b, 6, none⟩ (.int .i64 D)).setCell ⟨b, 7, none⟩ (.int .i64 coast)).setCell ⟨b, 8, none⟩ (.int .i64 fr)) b v lim mode A B C D coast fr := by
 obtain ⟨h0, h1, h2, h3, h4, h5, h6, h7, h8⟩ := h
 refine ⟨?_, ?_, ?_, ?_, ?_, ?_, ?_, ?_, ?_⟩ <;> simp [go_sem, h0, h1, h2, h3, h4, h5, h6, h7, h8]
theorem aC {B : Nat} {w w1 : World} (h : Below B w w1) {b : Nat} (hb : B ≤ b) (o : Nat) (v : Value) : Below B w (w1.setCell ⟨b, o, none⟩ v) := h.setCell hb v
def TkO (w : World) (b : Nat) (v : Value) (lim mode A B C D coast fr code : Int) : Prop := dQ w b v lim mode A B C D coast fr ∧ w.cell? ⟨b, 9, none⟩ = some (.int .i64 code)
theorem TkO.kept {w w' : World} {b : Nat} {v : Value} {lim mode A B C D coast fr code : Int} (h : TkO w b v lim mode A B C D coast fr code) (hB : Below w.heap.size w w') : TkO w' b v lim mode A B C D coast fr code := ⟨h.1.kept hB, lf h.2 hB⟩
theorem kJ (w : World) (v : Value) (lim mode A B C D coast fr code : Int) (t : TypeId) : TkO (w.alloc (.cells #[v, .int .i64 lim, .int .i64 mode, .int .i64 A, .int .i64 B, .int .i64 C, .int .i64 D, .int .i64 coast, .int .i64 fr, .int .i64 code] t)) w.heap.size v lim mode A B C D coast fr code := by
 refine ⟨⟨?_, ?_, ?_, ?_, ?_, ?_, ?_, ?_, ?_⟩, ?_⟩ <;> simp
theorem lh {w w' : World} {a : Addr} {v : Value} {row : Option Nat} (h : w.cell? a = some v) (hg : w.grownBy w' row) (hne : some a.block ≠ row) : w'.cell? a = some v := (World.cell?_of_block (hg.block a.block (World.block_lt_of_cell? w a h) hne)).trans h
theorem dQ.grown {w w' : World} {b : Nat} {v : Value} {lim mode A B C D coast fr : Int} {row : Option Nat} (h : dQ w b v lim mode A B C D coast fr) (hg : w.grownBy w' row) (hne : some b ≠ row) : dQ w' b v lim mode A B C D coast fr := by
 obtain ⟨h0, h1, h2, h3, h4, h5, h6, h7, h8⟩ := h
 exact ⟨lh h0 hg hne, lh h1 hg hne, lh h2 hg hne, lh h3 hg hne, lh h4 hg hne, lh h5 hg hne, lh h6 hg hne, lh h7 hg hne, lh h8 hg hne⟩
theorem TkO.grown {w w' : World} {b : Nat} {v : Value} {lim mode A B C D coast fr code : Int} {row : Option Nat} (h : TkO w b v lim mode A B C D coast fr code) (hg : w.grownBy w' row) (hne : some b ≠ row) : TkO w' b v lim mode A B C D coast fr code := ⟨h.1.grown hg hne, lh h.2 hg hne⟩
theorem sG (w : World) (B : Nat) (h : B ≤ w.heap.size) : (w.alloc (.cells #[] 60)).ownsRow B 60 4 (.slice (some ⟨w.heap.size, 0, none⟩) 0 0) 0 [] :=
 ⟨rfl, .inr ⟨_, 0, #[], rfl, h, Array.getElem?_push_size, Nat.le_refl _, Nat.zero_le _, rfl, rfl⟩⟩
theorem lA {L : List St} {u : Value} (h : u ∈ dt L) : u.oneCell' = true := by
 unfold dt at h
 rw [List.mem_flatMap] at h
 obtain ⟨s, _, hs⟩ := h
 simp [stC] at hs
 rcases hs with rfl | rfl | rfl | rfl <;> rfl
theorem oi {w : World} {b o : Nat} {L : List St} (h : aR w (some ⟨b, o, none⟩) L L.length) (j : Nat) (u : Value) (hj : (dt L)[j]? = some u) : w.cell? ((⟨b, o, none⟩ : Addr).add j) = some u := by
 have hlt : j < L.length * 4 := by
  have := (List.getElem?_eq_some_iff.1 hj).1
  rw [gY] at this
  exact this
 have hA : (⟨b, o, none⟩ : Addr).add j = ⟨b, o + j, none⟩ := by unfold Addr.add; split <;> simp_all
 rw [hA]
 rcases h with h | ⟨b', o', e, _, hc⟩
 ·omega
 ·simp only [Option.some.injEq, Addr.mk.injEq, and_true] at e
  obtain ⟨rfl, rfl⟩ := e
  obtain ⟨e0, e1, e2, e3⟩ := nw L (j / 4) (by omega)
  obtain ⟨c0, c1, c2, c3⟩ := hc (j / 4) (by omega)
  have h4 : j = j / 4 * 4 ∨ j = j / 4 * 4 + 1 ∨ j = j / 4 * 4 + 2 ∨ j = j / 4 * 4 + 3 := by omega
  rcases h4 with h4 | h4 | h4 | h4
  ·rw [h4, e0] at hj; rw [h4, c0]; exact hj
  ·rw [h4, e1] at hj; rw [h4, ← Nat.add_assoc, c1]; exact hj
  ·rw [h4, e2] at hj; rw [h4, ← Nat.add_assoc, c2]; exact hj
  ·rw [h4, e3] at hj; rw [h4, ← Nat.add_assoc, c3]; exact hj
def az (w : World) (B : Nat) (L : List St) (a : Option Addr) (cap : Nat) : Prop := w.ownsRow B 60 4 (.slice a L.length cap) L.length (dt L)
theorem az.stars {w : World} {B : Nat} {L : List St} {a : Option Addr} {cap : Nat} (h : az w B L a cap) : aR w a L L.length := by
 obtain ⟨a', c', e, _, _, hs⟩ := nL h
 injection e with e1 e2 e3
 subst e1
 exact hs
theorem az.row {w : World} {B : Nat} {L : List St} {a : Option Addr} {cap : Nat} (h : az w B L a cap) : ∃ row, wj w a L.length row ∧ ∀ g, row = some g → B ≤ g := CJ h rfl
theorem az.capMax {w : World} {B : Nat} {L : List St} {a : Option Addr} {cap : Nat} (h : az w B L a cap) : L.length ≤ cap ∧ cap ≤ maxLen := by
 obtain ⟨a', c', e, h1, h2, _⟩ := nL h
 injection e with e1 e2 e3
 subst e3
 exact ⟨h1, h2⟩
theorem az.kept {w w' : World} {B : Nat} {L : List St} {a : Option Addr} {cap : Nat} (h : az w B L a cap) (hB : Below w.heap.size w w') : az w' B L a cap := by
 obtain ⟨h1, h2⟩ := h
 refine ⟨h1, ?_⟩
 rcases h2 with h2 | ⟨g, c', cur, e, hg, hh, r⟩
 ·exact .inl h2
 ·exact .inr ⟨g, c', cur, e, hg, by rw [hB.block g (Array.getElem?_eq_some_iff.1 hh).1]; exact hh, r⟩
theorem az.low {w : World} {B B' : Nat} {L : List St} {a : Option Addr} {cap : Nat} (h : az w B L a cap) (hb : B' ≤ B) : az w B' L a cap := by
 obtain ⟨h1, h2⟩ := h
 refine ⟨h1, ?_⟩
 rcases h2 with h2 | ⟨g, c', cur, e, hg, r⟩
 ·exact .inl h2
 ·exact .inr ⟨g, c', cur, e, by omega, r⟩
theorem jR {w : World} {B : Nat} {L : List St} {v : Value} (h : w.ownsRow B 60 4 v L.length (dt L)) : ∃ a cap, v = .slice a L.length cap ∧ az w B L a cap := by
 obtain ⟨a, cap, e, _⟩ := nL h
 exact ⟨a, cap, e, by unfold az; rw [← e]; exact h⟩
theorem fF.grown {w w' : World} {b : Nat} {row : Option Nat} (h : fF w b) (hb : b < w.heap.size) (hg : w.grownBy w' row) (hne : some b ≠ row) : fF w' b := fun i => by
 have h1 := h i
 unfold World.frozen? at h1 ⊢
 rw [hg.block b hb hne]
 exact h1
theorem az.far {w : World} {B : Nat} {L : List St} {a : Option Addr} {cap : Nat} (h : az w B L a cap) {b : Nat} (hne : b < B) (o : Nat) (x : Value) : az (w.setCell ⟨b, o, none⟩ x) B L a cap := by
 obtain ⟨h1, h2⟩ := h
 refine ⟨h1, ?_⟩
 rcases h2 with h2 | ⟨g, c', cur, e, hg, hh, r⟩
 ·exact .inl h2
 ·exact .inr ⟨g, c', cur, e, hg, by rw [Below.heap_setCell w ⟨b, o, none⟩ x g (by show g ≠ b; omega)]; exact hh, r⟩
end
section
open Go.RowKit Go.Sort
theorem on {P : Program} (w : World) (t ty e : TypeId) (i : TypeInfo) (ht : P.underlying t = some (.slice e)) (hi : P.info? e = some i) (a : Option Addr) (n cap c : Nat) (hc : n ≤ cap) :
  (Builtin.append_ #[t, t] ty #[.slice a n cap, .slice none 0 c]).run P w = .ok (.slice a n cap) w := by
 cases a <;> simp [Builtin.append_, run_underlying ht, sizeOf, typeInfo, hi, Builtin.lenOf, Builtin.firstCells, loadCells, storeCells, hc]
theorem Eu {w : World} {B n m : Nat} {t : TypeId} {v : Value} {xs : List Value} (h : w.ownsRow B t m v n xs) : ∃ a cap, v = .slice a n cap ∧ n ≤ cap := by
 rcases h.2 with ⟨h1, h0⟩ | ⟨g, c', cur, e, _, _, h3, _⟩
 ·exact ⟨none, 0, by rw [h1, h0], by omega⟩
 ·exact ⟨_, _, e, h3⟩
theorem jW {P : Program} (w : World) {o : Oper} {a : Act} {K : Act → World → Prop} {Q : Exit → Act → World → Prop} (s x : Operand) (t : TypeId)
  (ho : o.op = .call { callee := .builtin .append, args := #[s, x], argTypes := #[t, t] })
  (base : Nat) (e : TypeId) (i : TypeInfo) (z : Value) (size bytes : Nat) (ht : P.underlying t = some (.slice e)) (hi : P.info? e = some i) (hz : i.zero = some z)
  (hsize : i.size = size) (hby : i.bytes = bytes) (hzs : z.cells.size = size) (hsz : 0 < size)
  (v : Value) (n : Nat) (xs : List Value) (hs : a.eval s = v) (hown : w.ownsRow base e size v n xs)
  (ao : Option Addr) (m c : Nat) (news : List Value) (hx : a.eval x = .slice ao m c) (hl : news.length = m * size) (h0 : ao = none → m = 0) (hnews : ∀ ad, ao = some ad → ∀ j u, news[j]? = some u → w.cell? (ad.add j) = some u) (h1 : ∀ u ∈ news, u.oneCell' = true)
  (h63 : n + m ≤ maxLen) (hbytes : (n + m) * bytes ≤ 140737488355328) (hbase : base ≤ w.heap.size)
  (h : ∀ v' w', w'.ownsRow base e size v' (n + m) (xs ++ news) → w.grownBy w' v.ownBlock → K (a.put o.dst v') w') : o.wp P a w K Q := by
 cases ao with
 | some ad => exact wp_append_own w s x t ho base e i z size bytes ht hi hz hsize hby hzs hsz v n xs hs hown ad m c news hx hl (hnews ad rfl) h1 h63 hbytes hbase fun v' w' h2 h3 _ => h v' w' h2 h3
 | none =>
  obtain rfl := h0 rfl
  obtain rfl : news = [] := List.eq_nil_of_length_eq_zero (by rw [hl]; omega)
  obtain ⟨a', cap, rfl, hc⟩ := Eu hown
  have hr := on (P := P) w t o.type e i ht hi a' n cap c hc
  unfold Oper.wp execOp
  simp only [ho, resolve, invoke, builtin, Sem.run_bind, Sem.run_pure, Result.andThen_ok, List.map_toArray, List.map_cons, List.map_nil, hs, hx, hr]
  exact h _ _ (by rw [List.append_nil]; exact hown) ⟨rfl, rfl, rfl, Nat.le_refl _, fun _ _ _ => rfl⟩
theorem lP {P : Program} {ops : Array Oper} {rest : List Oper} (w : World) {o : Oper} {a : Act} {Q : Exit → Act → World → Prop} (hgd : o.guard = none) (s x : Operand) (t : TypeId)
  (ho : o.op = .call { callee := .builtin .append, args := #[s, x], argTypes := #[t, t] })
  (base : Nat) (e : TypeId) (i : TypeInfo) (z : Value) (size bytes : Nat) (ht : P.underlying t = some (.slice e)) (hi : P.info? e = some i) (hz : i.zero = some z)
  (hsize : i.size = size) (hby : i.bytes = bytes) (hzs : z.cells.size = size) (hsz : 0 < size)
  (v : Value) (n : Nat) (xs : List Value) (hs : a.eval s = v) (hown : w.ownsRow base e size v n xs)
  (ao : Option Addr) (m c : Nat) (news : List Value) (hx : a.eval x = .slice ao m c) (hl : news.length = m * size) (h0 : ao = none → m = 0) (hnews : ∀ ad, ao = some ad → ∀ j u, news[j]? = some u → w.cell? (ad.add j) = some u) (h1 : ∀ u ∈ news, u.oneCell' = true)
  (h63 : n + m ≤ maxLen) (hbytes : (n + m) * bytes ≤ 140737488355328) (hbase : base ≤ w.heap.size)
  (h : ∀ v' w', w'.ownsRow base e size v' (n + m) (xs ++ news) → w.grownBy w' v.ownBlock → wpList P ops Q rest (a.put o.dst v') w') : wpList P ops Q (o :: rest) a w :=
 wpList_plain hgd fun _ hK => jW w s x t ho base e i z size bytes ht hi hz hsize hby hzs hsz v n xs hs hown ao m c news hx hl h0 hnews h1 h63 hbytes hbase fun v' w' h2 h3 => hK _ _ (h v' w' h2 h3)
theorem lT {w : World} {ao : Option Addr} {L : List St} (h : aR w ao L L.length) (ad : Addr) (he : ao = some ad) (j : Nat) (u : Value) (hj : (dt L)[j]? = some u) : w.cell? (ad.add j) = some u := by
 subst he
 rcases h with h0 | ⟨b, o, e, hb, hc⟩
 ·have := (List.getElem?_eq_some_iff.1 hj).1
  rw [gY] at this
  omega
 ·cases e
  exact oi (.inr ⟨b, o, rfl, hb, hc⟩) j u hj
theorem pg {w : World} {ao : Option Addr} {L : List St} (h : aR w ao L L.length) (he : ao = none) : L.length = 0 := by
 subst he
 rcases h with h0 | ⟨b, o, e, hb, hc⟩
 ·exact h0
 ·cases e
end
section
open Go.RowKit Go.Sort
theorem BM (T : Array Value) (X : World) (b : Nat) (v : Value) (lim mode A B C D coast fr : Int) (hT : T.getD 2 undef = .pointer (some ⟨b, 0, none⟩)) (h : dQ X b v lim mode A B C D coast fr) : (results Tryz.f45 T).run Tryz.prog X = .ok (.agg #[v, .int .i64 lim, .int .i64 mode, .int .i64 A, .int .i64 B, .int .i64 C, .int .i64 D, .int .i64 coast, .int .i64 fr]) X := by
  obtain ⟨h0, h1, h2, h3, h4, h5, h6, h7, h8⟩ := h
  simp only [Array.getD_eq_getD_getElem?] at hT
  simp [results, Tryz.results45, go_sem, hT, h0, h1, h2, h3, h4, h5, h6, h7, h8]
theorem xv (T : Array Value) (X : World) (b : Nat) (v : Value) (lim mode A B C D coast fr : Int) (hT : T.getD 2 undef = .pointer (some ⟨b, 0, none⟩)) (h : dQ X b v lim mode A B C D coast fr) : (results Tryz.f54 T).run Tryz.prog X = .ok (.agg #[v, .int .i64 lim, .int .i64 mode, .int .i64 A, .int .i64 B, .int .i64 C, .int .i64 D, .int .i64 coast, .int .i64 fr]) X := by
  obtain ⟨h0, h1, h2, h3, h4, h5, h6, h7, h8⟩ := h
  simp only [Array.getD_eq_getD_getElem?] at hT
  simp [results, Tryz.results54, go_sem, hT, h0, h1, h2, h3, h4, h5, h6, h7, h8]
theorem bA {w : World} {b : Nat} {u : Value} {lim0 mode0 A0 B0 C0 D0 coast0 fr0 code0 : Int} (h : TkO w b u lim0 mode0 A0 B0 C0 D0 coast0 fr0 code0) (v : Value) (lim mode A B C D coast fr code : Int) : TkO ((((((((((w.setCell ⟨b, 0, none⟩ v).setCell ⟨b, 1, none⟩ (.int .i64 lim)).setCell ⟨b, 2, none⟩ (.int .i64 mode)).setCell ⟨b, 3, none⟩ (.int .i64 A)).setCell ⟨b, 4, none⟩ (.int .i64 B)).setCell ⟨b, 5, none⟩ (.int .i64 C)).setCell ⟨b, 6, none⟩ (.int .i64 D)).setCell ⟨b, 7, none⟩ (.int .i64 coast)).setCell ⟨b, 8, none⟩ (.int .i64 fr)).setCell ⟨b, 9, none⟩ (.int .i64 code)) b v lim mode A B C D coast fr code := by
  obtain ⟨⟨h0, h1, h2, h3, h4, h5, h6, h7, h8⟩, h9⟩ := h
  refine ⟨⟨?_, ?_, ?_, ?_, ?_, ?_, ?_, ?_, ?_⟩, ?_⟩ <;> simp [go_sem, h0, h1, h2, h3, h4, h5, h6, h7, h8, h9]
theorem jO (L : List St) (lim mode A B C D coast fr : Int) (ad : Option Addr) (c : Nat) (w : World) (hn : L.length ≤ 1048576) (hS : aR w ad L L.length) :
    Calls Tryz.prog 45 #[.agg #[.slice ad L.length c, .int .i64 lim, .int .i64 mode, .int .i64 A, .int .i64 B, .int .i64 C, .int .i64 D, .int .i64 coast, .int .i64 fr]] w fun e w' => ∃ a cap, e = .returned (.agg #[.slice a L.length cap, .int .i64 lim, .int .i64 mode, .int .i64 A, .int .i64 B, .int .i64 C, .int .i64 D, .int .i64 coast, .int .i64 fr]) ∧ az w' (w.heap.size + 2) L a cap ∧ Below w.heap.size w w' := by
  have B0 := dW w (.cells #[.slice ad L.length c, .int .i64 lim, .int .i64 mode, .int .i64 A, .int .i64 B, .int .i64 C, .int .i64 D, .int .i64 coast, .int .i64 fr] 34) (.cells #[.slice none 0 0, .int .i64 0, .int .i64 0, .int .i64 0, .int .i64 0, .int .i64 0, .int .i64 0, .int .i64 0, .int .i64 0] 34) (.cells #[] 60)
  have S1 := yz (hS.kept B0)
  have S0 := ((dy w (.slice ad L.length c) lim mode A B C D coast fr 34).kept (an _ (.cells #[.slice none 0 0, .int .i64 0, .int .i64 0, .int .i64 0, .int .i64 0, .int .i64 0, .int .i64 0, .int .i64 0, .int .i64 0] 34))).kept (an _ (.cells #[] 60))
  have R0 := (by simpa using dy (w.alloc (.cells #[.slice ad L.length c, .int .i64 lim, .int .i64 mode, .int .i64 A, .int .i64 B, .int .i64 C, .int .i64 D, .int .i64 coast, .int .i64 fr] 34)) (.slice none 0 0) 0 0 0 0 0 0 0 0 34 : dQ ((w.alloc (.cells #[.slice ad L.length c, .int .i64 lim, .int .i64 mode, .int .i64 A, .int .i64 B, .int .i64 C, .int .i64 D, .int .i64 coast, .int .i64 fr] 34)).alloc (.cells #[.slice none 0 0, .int .i64 0, .int .i64 0, .int .i64 0, .int .i64 0, .int .i64 0, .int .i64 0, .int .i64 0, .int .i64 0] 34)) (w.heap.size + 1) (.slice none 0 0) 0 0 0 0 0 0 0 0).kept (an _ (.cells #[] 60))
  have F0 := ((du w #[.slice ad L.length c, .int .i64 lim, .int .i64 mode, .int .i64 A, .int .i64 B, .int .i64 C, .int .i64 D, .int .i64 coast, .int .i64 fr] 34).kept (by simp) (an _ (.cells #[.slice none 0 0, .int .i64 0, .int .i64 0, .int .i64 0, .int .i64 0, .int .i64 0, .int .i64 0, .int .i64 0, .int .i64 0] 34))).kept (by simp; omega) (an _ (.cells #[] 60))
  have G0 := (by simpa using du (w.alloc (.cells #[.slice ad L.length c, .int .i64 lim, .int .i64 mode, .int .i64 A, .int .i64 B, .int .i64 C, .int .i64 D, .int .i64 coast, .int .i64 fr] 34)) #[.slice none 0 0, .int .i64 0, .int .i64 0, .int .i64 0, .int .i64 0, .int .i64 0, .int .i64 0, .int .i64 0, .int .i64 0] 34 : fF ((w.alloc (.cells #[.slice ad L.length c, .int .i64 lim, .int .i64 mode, .int .i64 A, .int .i64 B, .int .i64 C, .int .i64 D, .int .i64 coast, .int .i64 fr] 34)).alloc (.cells #[.slice none 0 0, .int .i64 0, .int .i64 0, .int .i64 0, .int .i64 0, .int .i64 0, .int .i64 0, .int .i64 0, .int .i64 0] 34)) (w.heap.size + 1)).kept (by simp) (an _ (.cells #[] 60))
  have N0 := (by simpa using sG ((w.alloc (.cells #[.slice ad L.length c, .int .i64 lim, .int .i64 mode, .int .i64 A, .int .i64 B, .int .i64 C, .int .i64 D, .int .i64 coast, .int .i64 fr] 34)).alloc (.cells #[.slice none 0 0, .int .i64 0, .int .i64 0, .int .i64 0, .int .i64 0, .int .i64 0, .int .i64 0, .int .i64 0, .int .i64 0] 34)) (w.heap.size + 2) (by simp) : (((w.alloc (.cells #[.slice ad L.length c, .int .i64 lim, .int .i64 mode, .int .i64 A, .int .i64 B, .int .i64 C, .int .i64 D, .int .i64 coast, .int .i64 fr] 34)).alloc (.cells #[.slice none 0 0, .int .i64 0, .int .i64 0, .int .i64 0, .int .i64 0, .int .i64 0, .int .i64 0, .int .i64 0, .int .i64 0] 34)).alloc (.cells #[] 60)).ownsRow (w.heap.size + 2) 60 4 (.slice (some ⟨w.heap.size + 1 + 1, 0, none⟩) 0 0) 0 [])
  have HB := yz B0
  have HS := yz S0
  have HR := yz R0
  have HF := yz F0
  have HG := yz G0
  have HN := yz N0
  clear B0 S0 R0 F0 G0 N0 hS
  obtain ⟨i0, hinf, hz0, hz1, hz2⟩ := info_parts nF
  go_enter Tryz.func45, Tryz.ntmps45
  go_wp2_with (at_builtin; refine lP _ rfl _ _ 30 rfl (w.heap.size + 2) 60 i0 (.agg #[.int .i64 0, .int .i64 0, .int .i64 0, .int .i64 0]) 4 32 Tryz.underlying30 hinf hz0 hz1 hz2 rfl (by decide) _ _ _ rfl (yy HN) ad L.length c (dt L) rfl (gY L) (pg (yy S1)) (lT (yy S1)) (fun u hu => lA hu) ?d1 ?d2 ?d3 ?_)
  case d1 => have : 1048576 ≤ maxLen := by decide +kernel
             omega
  case d2 => omega
  case d3 => simp
  intro v' w1 ho hg
  obtain ⟨a, cap, rfl, hC⟩ := jR ho
  have B1 := yz (nK (yy HB) hg (yy HB).size (fun g e => by simp [Value.ownBlock] at e; omega))
  have S2 := (yy HS).grown hg (by simp [Value.ownBlock]; omega)
  have R2 := yz ((yy HR).grown hg (by simp [Value.ownBlock]))
  have F2 := yz ((yy HF).grown (yy HS).lt hg (by simp [Value.ownBlock]; omega))
  have G2 := yz ((yy HG).grown (yy HR).lt hg (by simp [Value.ownBlock]))
  have C1 := yz hC
  clear ho hg hC HB HS HR HF HG HN S1
  obtain ⟨s0, s1, s2, s3, s4, s5, s6, s7, s8⟩ := S2
  have S2' : Hid (dQ w1 w.heap.size (.slice ad L.length c) lim mode A B C D coast fr) := yz ⟨s0, s1, s2, s3, s4, s5, s6, s7, s8⟩
  obtain ⟨r0, r1, r2, r3, r4, r5, r6, r7, r8⟩ := yy R2
  have f0 := yy F2 0
  have g0 := yy G2 0
  have g1 := yy G2 1
  have g2 := yy G2 2
  have g3 := yy G2 3
  have g4 := yy G2 4
  have g5 := yy G2 5
  have g6 := yy G2 6
  have g7 := yy G2 7
  have g8 := yy G2 8
  go_wp2_with fail
  clear s0 s1 s2 s3 s4 s5 s6 s7 s8 r0 r1 r2 r3 r4 r5 r6 r7 r8 f0 g0 g1 g2 g3 g4 g5 g6 g7 g8
  refine bodyPost_ret (v := .agg #[.slice a L.length cap, .int .i64 lim, .int .i64 mode, .int .i64 A, .int .i64 B, .int .i64 C, .int .i64 D, .int .i64 coast, .int .i64 fr]) ?_ rfl ⟨a, cap, rfl, ?_, ?_⟩
  · refine BM _ _ (w.heap.size + 1) _ lim mode A B C D coast fr rfl ?_
    refine dM (lim0 := 0) (mode0 := 0) (A0 := 0) (B0 := 0) (C0 := 0) (D0 := 0) (coast0 := 0) (fr0 := 0) (u := .slice none 0 0) ?_ _ lim mode A B C D coast fr
    exact dQ.far (yy R2) (show w.heap.size + 1 ≠ w.heap.size by omega) _ _
  · iterate 9 (refine az.far ?_ (show w.heap.size + 1 < w.heap.size + 2 by omega) _ _)
    exact az.far (yy C1) (show w.heap.size < w.heap.size + 2 by omega) _ _
  · iterate 9 (refine aC ?_ (show w.heap.size ≤ w.heap.size + 1 by omega) _ _)
    exact aC (yy B1) (Nat.le_refl _) _ _
theorem iq (lim mode A B C D coast fr : Int) (a : Option Addr) (n c : Nat) (w : World) :
    Calls Tryz.prog 44 #[.agg #[.slice a n c, .int .i64 lim, .int .i64 mode, .int .i64 A, .int .i64 B, .int .i64 C, .int .i64 D, .int .i64 coast, .int .i64 fr]] w fun e w' => e = .returned (.agg #[.slice a n c, .int .i64 lim, .int .i64 0, .int .i64 0, .int .i64 0, .int .i64 0, .int .i64 0, .int .i64 0, .int .i64 fr]) ∧ Below w.heap.size w w' := by
  go_enter Tryz.func44, Tryz.ntmps44
  go_wp2
  exact bodyPost_ret (v := .agg #[.slice a n c, .int .i64 lim, .int .i64 0, .int .i64 0, .int .i64 0, .int .i64 0, .int .i64 0, .int .i64 0, .int .i64 fr]) (by simp [results, Tryz.results44, go_sem]) rfl ⟨rfl, aO _ _ _⟩
theorem dA (code : Int) (w : World) :
    Calls Tryz.prog 15 #[.int .i64 code] w fun e w' => e = .returned (.agg #[.slice none 0 0, .int .i64 0, .int .i64 0, .int .i64 0, .int .i64 0, .int .i64 0, .int .i64 0, .int .i64 0, .int .i64 0, .int .i64 code]) ∧ Below w.heap.size w w' := by
  go_enter Tryz.func15, Tryz.ntmps15
  go_wp2
  exact bodyPost_ret (v := .agg #[.slice none 0 0, .int .i64 0, .int .i64 0, .int .i64 0, .int .i64 0, .int .i64 0, .int .i64 0, .int .i64 0, .int .i64 0, .int .i64 code]) (by simp [results, Tryz.results15, go_sem]) rfl ⟨rfl, an _ _⟩
theorem kH (lim mode A B C D coast fr : Int) (a : Option Addr) (n c : Nat) (w : World) :
    Calls Tryz.prog 140 #[.agg #[.slice a n c, .int .i64 lim, .int .i64 mode, .int .i64 A, .int .i64 B, .int .i64 C, .int .i64 D, .int .i64 coast, .int .i64 fr]] w fun e w' => e = .returned (.agg #[.slice a n c, .int .i64 lim, .int .i64 0, .int .i64 0, .int .i64 0, .int .i64 0, .int .i64 0, .int .i64 0, .int .i64 fr]) ∧ Below w.heap.size w w' := by
  go_enter Tryz.func140, Tryz.ntmps140
  go_wp2
  exact bodyPost_ret (v := .agg #[.slice a n c, .int .i64 lim, .int .i64 0, .int .i64 0, .int .i64 0, .int .i64 0, .int .i64 0, .int .i64 0, .int .i64 fr]) (by simp [results, Tryz.results140, go_sem]) rfl ⟨rfl, aO _ _ _⟩
theorem mI (lim mode A B C D coast fr : Int) (a : Option Addr) (n c : Nat) (w : World) :
    Calls Tryz.prog 55 #[.agg #[.slice a n c, .int .i64 lim, .int .i64 mode, .int .i64 A, .int .i64 B, .int .i64 C, .int .i64 D, .int .i64 coast, .int .i64 fr]] w fun e w' => e = .returned (.agg #[.slice a n c, .int .i64 lim, .int .i64 mode, .int .i64 A, .int .i64 B, .int .i64 C, .int .i64 D, .int .i64 coast, .int .i64 fr, .int .i64 0]) ∧ Below w.heap.size w w' := by
  go_enter Tryz.func55, Tryz.ntmps55
  go_wp2
  exact bodyPost_ret (v := .agg #[.slice a n c, .int .i64 lim, .int .i64 mode, .int .i64 A, .int .i64 B, .int .i64 C, .int .i64 D, .int .i64 coast, .int .i64 fr, .int .i64 0]) (by simp [results, Tryz.results55, go_sem]) rfl ⟨rfl, aO _ _ _⟩
theorem il (n lo hi : Int) (w : World) :
  Calls Tryz.prog 17 #[.int .i64 n, .int .i64 lo, .int .i64 hi] w fun e w' => e = .returned (.bool (dv lo hi n)) ∧ w' = w := dE n lo hi w
theorem wF (n : Int) (w : World) :
  Calls Tryz.prog 63 #[.int .i64 n] w fun e w' => e = .returned (.bool (dv 0 1000000 n)) ∧ w' = w := by
 go_enter Tryz.func63, Tryz.ntmps63
 go_wp2_with fail
 refine (il n 0 1000000 _).mono ?_
 rintro e w1 ⟨rfl, hw⟩
 rw [hw]
 go_wp2_with fail
 go_ret
 exact ⟨rfl, rfl⟩
theorem iL (L : List St) (lim mode A B C D coast fr : Int) (a : Option Addr) (c : Nat) (w : World) (hn : L.length ≤ 1048576) (hS : aR w a L L.length) :
  Calls Tryz.prog 43 #[.agg #[.slice a L.length c, .int .i64 lim, .int .i64 mode, .int .i64 A, .int .i64 B, .int .i64 C, .int .i64 D, .int .i64 coast, .int .i64 fr]] w fun e w' => e = .returned (.bool (aD ⟨L, lim, mode, A, B, C, D, coast, fr⟩)) ∧ Below w.heap.size w w' := by
 have B0 := an w (.cells #[.slice a L.length c, .int .i64 lim, .int .i64 mode, .int .i64 A, .int .i64 B, .int .i64 C, .int .i64 D, .int .i64 coast, .int .i64 fr] 34)
 have T0 := dy w (.slice a L.length c) lim mode A B C D coast fr 34
 have cS := yz (iC L a c _ hn (hS.kept B0))
 have HB0 := yz B0
 have HT0 := yz T0
 clear B0 T0 hS hn
 go_enter Tryz.func43, Tryz.ntmps43
 go_wp2_with fail
 refine (yy cS).mono ?_
 rintro e w1 ⟨rfl, hx⟩
 have T1 := yz ((yy HT0).kept hx)
 have B1 := yz (ak (yy HB0) hx)
 clear hx cS HT0 HB0
 obtain ⟨c0, c1, c2, c3, c4, c5, c6, c7, c8⟩ := yy T1
 have hlt := (yy T1).lt
 cases hk : aV L
 ·have HO := yz (kz (t := ⟨L, lim, mode, A, B, C, D, coast, fr⟩) hk)
  go_wp2_with fail
  go_ret
  exact ⟨by rw [yy HO]; rfl, yy B1⟩
 go_wp2_with fail
 refine (il lim 1 5 _).mono ?_
 rintro e w2 ⟨rfl, hw⟩
 rw [hw]
 clear hw w2
 cases hl : dv 1 5 lim
 ·have HO := yz (kM (t := ⟨L, lim, mode, A, B, C, D, coast, fr⟩) hl)
  go_wp2_with fail
  go_ret
  exact ⟨by rw [yy HO]; rfl, yy B1⟩
 go_wp2_with fail
 refine (wF fr _).mono ?_
 rintro e w2 ⟨rfl, hw⟩
 rw [hw]
 clear hw w2
 cases hf : dv 0 1000000 fr
 ·have HO := yz (kB (t := ⟨L, lim, mode, A, B, C, D, coast, fr⟩) hf)
  go_wp2_with fail
  go_ret
  exact ⟨by rw [yy HO]; rfl, yy B1⟩
 have HH := yz (ly (t := ⟨L, lim, mode, A, B, C, D, coast, fr⟩) hk hl hf)
 clear hk hl hf
 have Z := ((yy B1).alloc (yy B1).size (.cells #[.int .i64 0, .int .i64 0, .int .i64 0, .int .i64 0] 32))
 have T2 := yz ((yy T1).kept (an w1 (.cells #[.int .i64 0, .int .i64 0, .int .i64 0, .int .i64 0] 32)))
 by_cases m0 : mode = 0
 ·have HO : Hid (aD ⟨L, lim, mode, A, B, C, D, coast, fr⟩ = (eqT A B C D 0 0 0 0 && decide (coast = 0))) := yz (by rw [yy HH, xl m0])
  have hq := fun W => mh A B C D 0 0 0 0 W
  cases hz : eqT A B C D 0 0 0 0
  ·rw [hz] at HO hq
   go_wp2_with fail
   go_ret
   exact ⟨by rw [yy HO]; rfl, Z⟩
  ·rw [hz] at HO hq
   go_wp2_with fail
   go_ret
   exact ⟨by rw [yy HO]; rfl, Z⟩
 by_cases m1 : mode = 1
 ·have HO : Hid (aD ⟨L, lim, mode, A, B, C, D, coast, fr⟩ = (aA A B C D && decide (coast = 0))) := yz (by rw [yy HH, kh m1])
  subst m1
  go_wp2_with fail
  refine (bf A B C D _).mono ?_
  rintro e w2 ⟨rfl, hx⟩
  have B2 := yz (ak Z hx)
  obtain ⟨d0, d1, d2, d3, d4, d5, d6, d7, d8⟩ := (yy T2).kept hx
  clear hx c0 c1 c2 c3 c4 c5 c6 c7 c8 Z
  cases hz : aA A B C D
  ·rw [hz] at HO
   go_wp2_with fail
   go_ret
   exact ⟨by rw [yy HO]; rfl, yy B2⟩
  ·rw [hz] at HO
   go_wp2_with fail
   go_ret
   exact ⟨by rw [yy HO]; rfl, yy B2⟩
 by_cases m2 : mode = 2
 ·have HO : Hid (aD ⟨L, lim, mode, A, B, C, D, coast, fr⟩ = (aA A B C D && dv 1 lim coast)) := yz (by rw [yy HH, lQ m2])
  subst m2
  go_wp2_with fail
  refine (bf A B C D _).mono ?_
  rintro e w2 ⟨rfl, hx⟩
  have B2 := yz (ak Z hx)
  obtain ⟨d0, d1, d2, d3, d4, d5, d6, d7, d8⟩ := (yy T2).kept hx
  clear hx c0 c1 c2 c3 c4 c5 c6 c7 c8 Z
  cases hz : aA A B C D
  ·rw [hz] at HO
   go_wp2_with fail
   go_ret
   exact ⟨by rw [yy HO]; rfl, yy B2⟩
  ·rw [hz] at HO
   go_wp2_with fail
   refine (il coast 1 lim _).mono ?_
   rintro e w3 ⟨rfl, hw⟩
   rw [hw]
   clear hw w3
   go_wp2_with fail
   go_ret
   exact ⟨by rw [yy HO]; rfl, yy B2⟩
 ·have HO : Hid (aD ⟨L, lim, mode, A, B, C, D, coast, fr⟩ = false) := yz (by rw [yy HH, mY m0 m1 m2])
  go_wp2_with fail
  go_ret
  exact ⟨by rw [yy HO]; rfl, Z⟩
end
section
open Go.RowKit
def cH (w : World) (t : TypeId) (g m : Nat) (f : Nat → Value) : Prop := ∃ cur : Array Value, w.heap[g]? = some (.cells cur t (0, 0)) ∧ ∀ j, j < m → cur[j]? = some (f j)
theorem cH.lt {w : World} {t : TypeId} {g m : Nat} {f : Nat → Value} (h : cH w t g m f) : g < w.heap.size := by
 obtain ⟨cur, hc, _⟩ := h
 exact (Array.getElem?_eq_some_iff.1 hc).1
theorem cH.same {w w' : World} {t : TypeId} {g m : Nat} {f : Nat → Value} (h : cH w t g m f) (e : w'.heap[g]? = w.heap[g]?) : cH w' t g m f := by
 obtain ⟨cur, hc, hs⟩ := h
 exact ⟨cur, by rw [e]; exact hc, hs⟩
theorem cH.kept {w w' : World} {t : TypeId} {g m : Nat} {f : Nat → Value} (h : cH w t g m f) (hB : Below w.heap.size w w') : cH w' t g m f := h.same (hB.block g h.lt)
theorem cH.congr {w : World} {t : TypeId} {g m : Nat} {f f' : Nat → Value} (h : cH w t g m f) (e : ∀ j, j < m → f j = f' j) : cH w t g m f' := by
 obtain ⟨cur, hc, hs⟩ := h
 exact ⟨cur, hc, fun j hj => by rw [hs j hj, e j hj]⟩
theorem cH.cell {w : World} {t : TypeId} {g m j : Nat} {f : Nat → Value} (h : cH w t g m f) (hj : j < m) : w.cell? ⟨g, j, none⟩ = some (f j) := by
 obtain ⟨cur, hc, hs⟩ := h
 rw [cell_of_row w g j cur t _ hc]
 exact hs j hj
theorem cH.free {w : World} {t : TypeId} {g m : Nat} {f : Nat → Value} (h : cH w t g m f) (j : Nat) : w.frozen? ⟨g, j, none⟩ = false := by
 obtain ⟨cur, hc, _⟩ := h
 exact frozen_of_row w g j cur t hc
theorem cH.set {w : World} {t : TypeId} {g m : Nat} {f : Nat → Value} (h : cH w t g m f) (i : Nat) (v : Value) : cH (w.setCell ⟨g, i, none⟩ v) t g m (fun j => if j = i then v else f j) := by
 obtain ⟨cur, hc, hs⟩ := h
 refine ⟨_, heap_setCell_same w g i cur t v hc, fun j hj => ?_⟩
 have := hs j hj
 rw [Array.getElem?_setIfInBounds]
 by_cases e : i = j
 ·subst e
  simp [(Array.getElem?_eq_some_iff.1 this).1]
 ·have e' : ¬ j = i := fun h => e (Eq.symm h)
  simp [e, e', this]
structure pp (lo hi : Nat) (w w' : World) : Prop where
 os : w'.os = w.os
 tape : w'.tape = w.tape
 output : w'.output = w.output
 size : w.heap.size ≤ w'.heap.size
 block : ∀ k, k < w.heap.size → (k < lo ∨ hi ≤ k) → w'.heap[k]? = w.heap[k]?
theorem pp.refl (lo hi : Nat) (w : World) : pp lo hi w w := ⟨rfl, rfl, rfl, Nat.le_refl _, fun _ _ _ => rfl⟩
theorem pp.of {lo hi g : Nat} {w w' : World} (h : w.grownBy w' (some g)) (h1 : lo ≤ g) (h2 : g < hi) : pp lo hi w w' := ⟨h.os, h.tape, h.output, h.size, fun k hk hne => h.block k hk (fun e => by have := Option.some.inj e; omega)⟩
theorem pp.below {B lo hi : Nat} {w w1 w2 : World} (h : Below B w w1) (ha : pp lo hi w1 w2) (h1 : B ≤ lo) (h2 : B ≤ w1.heap.size) : Below B w w2 :=
 h.trans ⟨ha.os, ha.tape, ha.output, ha.size, fun k hk => ha.block k (by omega) (.inl (by omega))⟩
def jb (w : World) (t : TypeId) (c lo hi n : Nat) (v : Value) (f : Nat → Value) : Prop := (n = 0 ∧ ∃ a cap, v = .slice a 0 cap) ∨ ∃ g cap, v = .slice (some ⟨g, 0, none⟩) n cap ∧ lo ≤ g ∧ g < hi ∧ cH w t g (n * c) f
theorem jb.kept {w w' : World} {t : TypeId} {c lo hi n : Nat} {v : Value} {f : Nat → Value} (h : jb w t c lo hi n v f) (hB : Below w.heap.size w w') : jb w' t c lo hi n v f := by
 rcases h with h | ⟨g, cap, hv, h1, h2, hr⟩
 ·exact .inl h
 ·exact .inr ⟨g, cap, hv, h1, h2, hr.kept hB⟩
theorem jb.apart {w w' : World} {t : TypeId} {c lo hi l h n : Nat} {v : Value} {f : Nat → Value} (hp : jb w t c lo hi n v f) (ha : pp l h w w') (hd : hi ≤ l ∨ h ≤ lo) : jb w' t c lo hi n v f := by
 rcases hp with hp | ⟨g, cap, hv, h1, h2, hr⟩
 ·exact .inl hp
 ·exact .inr ⟨g, cap, hv, h1, h2, hr.same (ha.block g hr.lt (by omega))⟩
theorem jb.wide {w : World} {t : TypeId} {c lo hi lo' hi' n : Nat} {v : Value} {f : Nat → Value} (h : jb w t c lo hi n v f) (h1 : lo' ≤ lo) (h2 : hi ≤ hi') : jb w t c lo' hi' n v f := by
 rcases h with h | ⟨g, cap, hv, g1, g2, hr⟩
 ·exact .inl h
 ·exact .inr ⟨g, cap, hv, by omega, by omega, hr⟩
theorem jb.of {w : World} {t : TypeId} {c B n : Nat} {v : Value} {xs : List Value} {f : Nat → Value} (h : w.ownsRow B t c v n xs) (hf : ∀ j, j < n * c → xs[j]? = some (f j)) : jb w t c B w.heap.size n v f := by
 rcases h.2 with ⟨h1, h0⟩ | ⟨g, cap, cur, hv, hb, hg, hnc, hcm, hcs, htake⟩
 ·exact .inl ⟨h0, _, _, h1⟩
 ·refine .inr ⟨g, cap, hv, hb, (Array.getElem?_eq_some_iff.1 hg).1, cur, hg, fun j hj => ?_⟩
  have e := hf j hj
  rw [← htake, List.getElem?_take, if_pos hj] at e
  simpa using e
end
section
open Go.RowKit Go.Sort
def rQ (fI : Nat → Int) (fB : Nat → Bool) (j : Nat) : Value := .int .i64 (fI j)
end
end Go.Proofs.YtlleafjdgblhcaaGreatDoor
