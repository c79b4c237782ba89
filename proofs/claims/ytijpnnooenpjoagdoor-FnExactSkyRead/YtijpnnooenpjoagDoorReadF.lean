/- The specification's reader: a number within bounds, a vector. -/
import Derived.Test.YtijpnnooenpjoagDoorReadE
namespace Go.Proofs.YtijpnnooenpjoagDoor
open Go.RowKit Go.Sort
set_option linter.unusedVariables false

def manyV (t : ByteArray) (q : Nat) (bad : Bool) (most : Int) : Int × Nat × Bool :=
  if 0 ≤ (numV t q bad).1 ∧ (numV t q bad).1 ≤ most then numV t q bad else (0, (numV t q bad).2.1, true)

set_option maxHeartbeats 2000000 in
set_option maxRecDepth 100000 in
theorem many_any (b : Nat) (t : ByteArray) (q : Nat) (bad : Bool) (most : Int) (w : World) (ht : t.size ≤ 8000) (hq : q ≤ 8000) (hR : RdAt w b t q bad) :
    Calls Tryd.prog 56 #[.pointer (some ⟨b, 0, none⟩), .int .i64 most] w fun e w' => e = .returned (.int .i64 (manyV t q bad most).1) ∧ RdAt w' b t (manyV t q bad most).2.1 (manyV t q bad most).2.2 ∧ w.grownBy w' (some b) := by
  have cN := hide (num_any b t q bad w ht hq hR)
  have HM : Hid (manyV t q bad most = if 0 ≤ (numV t q bad).1 ∧ (numV t q bad).1 ≤ most then numV t q bad else (0, (numV t q bad).2.1, true)) := hide rfl
  clear hR
  generalize manyV t q bad most = mv at *
  generalize numV t q bad = nv at *
  obtain ⟨n, q', bad'⟩ := nv
  go_enter Tryd.func56, Tryd.ntmps56
  go_wp2_with fail
  refine (unhide cN).mono ?_
  rintro e w1 ⟨rfl, hr, hg⟩
  have R1 := hide hr
  have G1 := hide hg
  clear hr hg cN
  go_wp2_with fail
  refine (l02Is_any n 0 most _).mono ?_
  rintro e w2 ⟨rfl, hw⟩
  rw [hw]
  clear hw w2
  obtain ⟨c0, c1, c2, f1, f2⟩ := unhide R1
  by_cases h : 0 ≤ n ∧ n ≤ most
  · rw [if_pos h] at HM
    have hd : (decide (0 ≤ n) && decide (n ≤ most)) = true := by simp [h.1, h.2]
    rw [hd]
    go_wp2_with fail
    go_ret
    exact ⟨by rw [unhide HM]; rfl, by rw [unhide HM]; exact unhide R1, unhide G1⟩
  · rw [if_neg h] at HM
    have hd : (decide (0 ≤ n) && decide (n ≤ most)) = false := by
      rw [Bool.and_eq_false_iff, decide_eq_false_iff_not, decide_eq_false_iff_not]; omega
    rw [hd]
    go_wp2_with fail
    go_ret
    exact ⟨by rw [unhide HM]; rfl, by rw [unhide HM]; exact (unhide R1).bad true, grownSet (unhide G1) _ _⟩

def vecV (t : ByteArray) (q : Nat) (bad : Bool) : (Int × Int × Int) × Nat × Bool :=
  ((( numV t q bad).1, (numV t (numV t q bad).2.1 (numV t q bad).2.2).1, (numV t (numV t (numV t q bad).2.1 (numV t q bad).2.2).2.1 (numV t (numV t q bad).2.1 (numV t q bad).2.2).2.2).1),
   (numV t (numV t (numV t q bad).2.1 (numV t q bad).2.2).2.1 (numV t (numV t q bad).2.1 (numV t q bad).2.2).2.2).2)

theorem VecAt.grown {w w' : World} {b : Nat} {x y z : Int} {row : Option Nat} (h : VecAt w b x y z) (hg : w.grownBy w' row) (hne : some b ≠ row) : VecAt w' b x y z :=
  ⟨hg.cell h.1 hne, hg.cell h.2.1 hne, hg.cell h.2.2 hne⟩
theorem FreeAt.grown {w w' : World} {b : Nat} {row : Option Nat} (h : FreeAt w b) (hb : b < w.heap.size) (hg : w.grownBy w' row) (hne : some b ≠ row) : FreeAt w' b := by
  have e := hg.block b hb hne
  exact ⟨by rw [World.frozen?_of_block (w := w) e]; exact h.1, by rw [World.frozen?_of_block (w := w) e]; exact h.2.1, by rw [World.frozen?_of_block (w := w) e]; exact h.2.2⟩
theorem numV_le {t : ByteArray} {q : Nat} {bad : Bool} (ht : t.size ≤ 8000) (hq : q ≤ 8000) : (numV t q bad).2.1 ≤ 8000 := by
  unfold numV
  split
  · exact hq
  · cases h : scanN t q with
    | none => exact hq
    | some x => exact Nat.le_trans (scanN_le (n := x.1) (q := x.2) (by rw [h])).2 ht
theorem RdAt.set {w : World} {b c i : Nat} {t : ByteArray} {q : Nat} {bad : Bool} {v : Value} (h : RdAt w b t q bad) (hne : c ≠ b) : RdAt (w.setCell ⟨c, i, none⟩ v) b t q bad := by
  obtain ⟨h0, h1, h2, f1, f2⟩ := h
  have hn : b ≠ c := fun e => hne e.symm
  refine ⟨?_, ?_, ?_, ?_, ?_⟩
  · rw [World.cell?_setCell_far _ _ _ _ hne]; exact h0
  · rw [World.cell?_setCell_far _ _ _ _ hne]; exact h1
  · rw [World.cell?_setCell_far _ _ _ _ hne]; exact h2
  · simp only [World.frozen?_setCell]; exact f1
  · simp only [World.frozen?_setCell]; exact f2

theorem grownNew {w w1 : World} {c i : Nat} {v : Value} {row : Option Nat} (h : w.grownBy w1 row) (hc : w.heap.size ≤ c) : w.grownBy (w1.setCell ⟨c, i, none⟩ v) row :=
  ⟨h.os, h.tape, h.output, by simpa using h.size, fun k hk hn => by rw [Below.heap_setCell _ _ _ _ (show k ≠ c by omega)]; exact h.block k hk hn⟩
theorem VecAt.set1 {w : World} {b : Nat} {x y z : Int} (h : VecAt w b x y z) (u : Int) : VecAt (w.setCell ⟨b, 1, none⟩ (.int .i64 u)) b x u z := by
  obtain ⟨h0, h1, h2⟩ := h
  refine ⟨?_, ?_, ?_⟩ <;> simp [go_sem, h0, h1, h2]
theorem VecAt.set2 {w : World} {b : Nat} {x y z : Int} (h : VecAt w b x y z) (u : Int) : VecAt (w.setCell ⟨b, 2, none⟩ (.int .i64 u)) b x y u := by
  obtain ⟨h0, h1, h2⟩ := h
  refine ⟨?_, ?_, ?_⟩ <;> simp [go_sem, h0, h1, h2]
theorem VecAt.far {w : World} {b c i : Nat} {v : Value} {x y z : Int} (h : VecAt w b x y z) (hn : c ≠ b) : VecAt (w.setCell ⟨c, i, none⟩ v) b x y z :=
  ⟨by rw [World.cell?_setCell_far _ _ _ _ hn]; exact h.1, by rw [World.cell?_setCell_far _ _ _ _ hn]; exact h.2.1, by rw [World.cell?_setCell_far _ _ _ _ hn]; exact h.2.2⟩
theorem FreeAt.set {w : World} {b : Nat} {a : Addr} {v : Value} (h : FreeAt w b) : FreeAt (w.setCell a v) b := by
  unfold FreeAt
  simp only [World.frozen?_setCell]
  exact h

set_option maxHeartbeats 2000000 in
set_option maxRecDepth 100000 in
theorem vec_any (b : Nat) (t : ByteArray) (q : Nat) (bad : Bool) (w : World) (ht : t.size ≤ 8000) (hq : q ≤ 8000) (hR : RdAt w b t q bad) :
    Calls Tryd.prog 58 #[.pointer (some ⟨b, 0, none⟩)] w fun e w' => e = .returned (.agg #[.int .i64 (vecV t q bad).1.1, .int .i64 (vecV t q bad).1.2.1, .int .i64 (vecV t q bad).1.2.2]) ∧ RdAt w' b t (vecV t q bad).2.1 (vecV t q bad).2.2 ∧ w.grownBy w' (some b) := by
  have hb := hide hR.lt
  have HV : Hid (vecV t q bad = vecV t q bad) := hide rfl
  generalize e0 : vecV t q bad = vv at HV ⊢
  unfold vecV at e0
  have l1 := numV_le (bad := bad) ht hq
  have R0 := hide (hR.kept (below1 w (.cells #[.int .i64 0, .int .i64 0, .int .i64 0] 43)))
  have c1 := hide (num_any b t q bad (w.alloc (.cells #[.int .i64 0, .int .i64 0, .int .i64 0] 43)) ht hq (unhide R0))
  have G0 : Hid (w.grownBy (w.alloc (.cells #[.int .i64 0, .int .i64 0, .int .i64 0] 43)) (some b)) := hide (grownB (below1 w _))
  have A0 := hide (vecAt_new w 0 0 0 43)
  have F0 := hide (freeAt_new w 0 0 0 43)
  clear hR R0 HV
  generalize numV t q bad = n1 at *
  obtain ⟨x, q1, bad1⟩ := n1
  simp only at l1 e0
  have l2 := numV_le (bad := bad1) ht l1
  have hne : Hid (some w.heap.size ≠ some b) := hide (by have := unhide hb; simp; omega)
  go_enter Tryd.func58, Tryd.ntmps58
  go_wp2_with fail
  refine (unhide c1).mono ?_
  rintro e w1 ⟨rfl, hr, hg⟩
  have G1 := hide (grownTr (unhide G0) hg)
  have A1 := hide ((unhide A0).grown hg (unhide hne))
  have F1 := hide ((unhide F0).grown (by simp) hg (unhide hne))
  have R1 := hide hr
  clear hr hg c1 G0 A0 F0
  have hc : b < w1.heap.size := (unhide R1).lt
  have ha : w.heap.size < w1.heap.size := VecAt.lt' (unhide A1)
  have Z2 := hide (below1 w1 (.cells #[.int .i64 x, .int .i64 0, .int .i64 0] 43))
  have R2 := hide ((unhide R1).kept (unhide Z2))
  have G2 := hide (grownTr (unhide G1) (grownB (b := b) (unhide Z2)))
  have A2 := hide ((unhide A1).kept ha (unhide Z2))
  have F2 := hide ((unhide F1).kept ha (unhide Z2))
  have V2 := hide (vecAt_new w1 x 0 0 43)
  have U2 := hide (freeAt_new w1 x 0 0 43)
  have hlt : w1.heap.size < (w1.alloc (.cells #[.int .i64 x, .int .i64 0, .int .i64 0] 43)).heap.size := VecAt.lt' (unhide V2)
  clear R1 G1 A1 F1 Z2
  go_wp2_with fail
  generalize w1.alloc (.cells #[.int .i64 x, .int .i64 0, .int .i64 0] 43) = W2 at *
  generalize w1.heap.size = c at *
  have c2 := hide (num_any b t q1 bad1 W2 ht l1 (unhide R2))
  generalize numV t q1 bad1 = n2 at *
  obtain ⟨y, q2, bad2⟩ := n2
  simp only at l2 e0
  have hnc : Hid (some c ≠ some b) := hide (by simp; omega)
  refine (unhide c2).mono ?_
  rintro e w3 ⟨rfl, hr, hg⟩
  have G3 := hide (grownNew (c := c) (i := 1) (v := .int .i64 y) (grownTr (unhide G2) hg) (by omega))
  have A3 := hide (((unhide A2).grown hg (unhide hne)).far (c := c) (i := 1) (v := .int .i64 y) (by omega))
  have F3 := hide (((unhide F2).grown (by omega) hg (unhide hne)).set (a := ⟨c, 1, none⟩) (v := .int .i64 y))
  obtain ⟨v0, v1, v2⟩ := (unhide V2).grown hg (unhide hnc)
  obtain ⟨u0, u1, u2⟩ := (unhide U2).grown (by omega) hg (unhide hnc)
  have V3 := hide (((unhide V2).grown hg (unhide hnc)).set1 y)
  have U3 := hide (((unhide U2).grown (by omega) hg (unhide hnc)).set (a := ⟨c, 1, none⟩) (v := .int .i64 y))
  have R3 := hide (hr.set (c := c) (i := 1) (v := .int .i64 y) (by omega))
  clear hr hg c2 G2 A2 F2 V2 U2 R2
  go_wp2_with fail
  clear v0 v1 v2 u0 u1 u2
  generalize w3.setCell ⟨c, 1, none⟩ (.int .i64 y) = W3 at *
  have c3 := hide (num_any b t q2 bad2 W3 ht l2 (unhide R3))
  generalize numV t q2 bad2 = n3 at *
  obtain ⟨z, q3, bad3⟩ := n3
  simp only at e0
  subst e0
  have hl3 : c < W3.heap.size := VecAt.lt' (unhide V3)
  have hm3 : w.heap.size < W3.heap.size := VecAt.lt' (unhide A3)
  refine (unhide c3).mono ?_
  rintro e w4 ⟨rfl, hr, hg⟩
  have G4 := hide (grownNew (c := c) (i := 2) (v := .int .i64 z) (grownTr (unhide G3) hg) (by omega))
  obtain ⟨a0, a1, a2⟩ := (unhide A3).grown hg (unhide hne)
  obtain ⟨f0, f1, f2⟩ := (unhide F3).grown hm3 hg (unhide hne)
  obtain ⟨v0, v1, v2⟩ := (unhide V3).grown hg (unhide hnc)
  obtain ⟨u0, u1, u2⟩ := (unhide U3).grown hl3 hg (unhide hnc)
  have R4 := hide (hr.set (c := c) (i := 2) (v := .int .i64 z) (by omega))
  have hca : Hid (c ≠ w.heap.size) := hide (by omega)
  have hb' := unhide hb
  clear hr hg c3 G3 A3 F3 V3 U3 R3
  have n0 : w.heap.size ≠ c := by omega
  go_wp2_with fail
  exact bodyPost_ret (v := .agg #[.int .i64 x, .int .i64 y, .int .i64 z]) (by simp [results, Tryd.results58, go_sem, a0, a1, a2]) rfl ⟨rfl, (((unhide R4).set (by omega)).set (by omega)).set (by omega), grownNew (grownNew (grownNew (unhide G4) (by omega)) (by omega)) (by omega)⟩
end Go.Proofs.YtijpnnooenpjoagDoor
