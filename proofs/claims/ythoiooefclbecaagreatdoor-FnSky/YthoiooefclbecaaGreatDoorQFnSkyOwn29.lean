/- Several texts in one: Draw4, ReadE, ReadF, PairO, PairP. -/
import Derived.Test.YthoiooefclbecaaGreatDoorQFnSkyOwn19
import Derived.Test.YthoiooefclbecaaGreatDoorQFnSkyOwn25
import Derived.Test.YthoiooefclbecaaGreatDoorQFnSkyOwn16
import Derived.Test.YthoiooefclbecaaGreatDoorQFnSkyOwn3
import Derived.Test.YthoiooefclbecaaGreatDoorQFnSkyOwn17
import Derived.Test.YthoiooefclbecaaGreatDoorQFnSkyOwn18
namespace Go.Proofs.YthoiooefclbecaaGreatDoor
set_option linter.unusedVariables false
set_option linter.unusedSimpArgs false
set_option maxRecDepth 100000
set_option maxHeartbeats 8000000
section
open Go.RowKit
theorem ne {a w : World} {row : Option Nat} {b : Nat} (h : a.grownBy w row) (hb : b < a.heap.size) : b < w.heap.size := Nat.lt_of_lt_of_le hb h.size
theorem lL (b : Nat) (w : World) (hS : aI b w) :
  Calls Tryz.prog 77 #[.pointer (some ⟨b, 0, none⟩)] w fun e w' => ∃ x y z : Int, e = .returned (.agg #[.int .i64 x, .int .i64 y, .int .i64 z]) ∧ aI b w' ∧ w.grownBy w' (some b) := by
 have hlt := hS.lt
 have HS := yz hS
 clear hS
 go_enter Tryz.func77, Tryz.ntmps77
 go_wp2_with fail
 refine (aT b 9 _ ((yy HS).allocs _) (by omega)).mono ?_
 rintro e w1 ⟨x, rfl, _, _, _, hS1, hg1⟩
 have vr := (aw w 0 0 0 33).grown hg1 (by omega)
 have fr := (aV w 0 0 0 33).grown (by simp) hg1 (by omega)
 have hs : w.heap.size < w1.heap.size := by have := hg1.size; simp at this; omega
 have hg := al (World.grownBy_alloc w _ (some b)) hg1
 have HS1 := yz hS1
 clear hS1 hg1
 go_wp2_with fail
 refine (aT b 9 _ (yy HS1) (by omega)).mono ?_
 rintro e w2 ⟨y, rfl, _, _, _, hS2, hg2⟩
 replace vr := vr.grown hg2 (by omega)
 replace fr := fr.grown hs hg2 (by omega)
 replace hs := ne hg2 hs
 replace hg := al hg hg2
 have HS2 := yz hS2
 clear hS2 hg2 HS1
 go_wp2_with fail
 refine (aT b 7 _ (yy HS2) (by omega)).mono ?_
 rintro e w3 ⟨z, rfl, _, _, _, hS3, hg3⟩
 replace vr := vr.grown hg3 (by omega)
 replace fr := fr.grown hs hg3 (by omega)
 replace hs := ne hg3 hs
 replace hg := al hg hg3
 have HS3 := yz hS3
 clear hS3 hg3 HS2
 go_wp2_with fail
 generalize x - 4 = x'
 generalize y - 4 = y'
 generalize z - 2 = z'
 refine (bO b 20 _ ((yy HS3).allocs _) (by omega)).mono ?_
 rintro e w4 ⟨q, rfl, hS4, hg4⟩
 have hb3 := (yy HS3).lt
 have vv := (aw w3 x' y' z' 33).grown hg4 (by omega)
 have fv := (aV w3 x' y' z' 33).grown (by simp) hg4 (by omega)
 replace vr := (vr.alloc hs _).grown hg4 (by omega)
 replace fr := (fr.kept hs (am _ _)).grown (by simp; omega) hg4 (by omega)
 have hs34 : w.heap.size < w3.heap.size := hs
 have hv4 : w3.heap.size < w4.heap.size := by have := hg4.size; simp at this; omega
 replace hg := al (al hg (World.grownBy_alloc w3 _ (some b))) hg4
 replace hs : w.heap.size < w4.heap.size := by omega
 have hle : w.heap.size ≤ w3.heap.size := by omega
 have HS4 := yz hS4
 clear hS4 hg4 HS3
 cases q
 ·have HG := yz hg
  clear hg
  obtain ⟨r0, r1, r2⟩ := vr
  obtain ⟨f0, f1, f2⟩ := fr
  obtain ⟨v0, v1, v2⟩ := vv
  clear fv
  go_wp2_with fail
  exact bodyPost_ret (v := .agg #[.int .i64 x', .int .i64 y', .int .i64 z']) (by simp [results, Tryz.results77, go_sem, r0, r1, r2]) rfl ⟨x', y', z', rfl, (((yy HS4).set (by simpa using hlt) _).set (by simpa using hlt) _).set (by simpa using hlt) _, aq (aq (aq (yy HG) (Nat.le_refl _) _) (Nat.le_refl _) _) (Nat.le_refl _) _⟩
 ·go_wp2_with fail
  refine (aT b 3 _ ((yy HS4).allocs _) (by omega)).mono ?_
  rintro e w5 ⟨k0, rfl, k00, k01, _, hS5, hg5⟩
  have hk3 : k0 < 3 := k01 (by omega)
  obtain ⟨k, rfl⟩ : ∃ k : Nat, k0 = (k : Int) := ⟨k0.toNat, by omega⟩
  have hc : ∃ v : Int, w5.cell? ⟨w4.heap.size, k, none⟩ = some (.int .i64 v) := by
   have hk : k < 3 := by omega
   match k, hk with
   | 0, _ => exact ⟨_, dp w4 w5 b _ _ hg5 (yy HS4).lt 0 _ rfl⟩
   | 1, _ => exact ⟨_, dp w4 w5 b _ _ hg5 (yy HS4).lt 1 _ rfl⟩
   | 2, _ => exact ⟨_, dp w4 w5 b _ _ hg5 (yy HS4).lt 2 _ rfl⟩
  obtain ⟨v, hv⟩ := hc
  replace vr := (vr.alloc hs _).grown hg5 (by omega)
  replace fr := (fr.kept hs (am _ _)).grown (by simp; omega) hg5 (by omega)
  replace vv := (vv.alloc hv4 _).grown hg5 (by omega)
  replace fv := (fv.kept hv4 (am _ _)).grown (by simp; omega) hg5 (by omega)
  replace hg := al (al hg (World.grownBy_alloc w4 _ (some b))) hg5
  have hne : w3.heap.size ≠ w.heap.size := by omega
  have HS5 := yz hS5
  have HG := yz hg
  clear hS5 hg5 hg HS4 k01
  obtain ⟨r0, r1, r2⟩ := vr
  obtain ⟨f0, f1, f2⟩ := fr
  obtain ⟨v0, v1, v2⟩ := vv
  obtain ⟨g0, g1, g2⟩ := fv
  go_wp2_with fail
  exact bodyPost_ret (v := .agg #[.int .i64 x', .int .i64 y', .int .i64 v]) (by simp [results, Tryz.results77, go_sem, r0, r1, r2]) rfl ⟨x', y', v, rfl, ((((yy HS5).set (by simpa using hb3) _).set (by simpa using hlt) _).set (by simpa using hlt) _).set (by simpa using hlt) _, aq (aq (aq (aq (yy HG) hle _) (Nat.le_refl _) _) (Nat.le_refl _) _) (Nat.le_refl _) _⟩
end
section
open Go.RowKit Go.Sort
theorem lJ {s : ByteArray} {p : Nat} : ∀ (k i u : Nat) {c : Int}, bi s p k i u = .error c → c = 3 ∨ c = 4
 | 0, i, u, c, h => by simp [bi] at h; exact .inl h.symm
 | k + 1, i, u, c, h => by
  rw [bi] at h
  split at h
  ·exact .inr (Except.error.inj h).symm
  ·split at h
   ·exact .inl (Except.error.inj h).symm
   ·split at h
    ·split at h
     ·exact .inl (Except.error.inj h).symm
     ·cases h
    ·exact lJ k (i + 1) _ h
theorem rl {s : ByteArray} {q : Nat} (hs : s.size ≤ 8000) : ∃ x y z : Int, ix s (q : Int) = .agg #[.int .i64 x, .int .i64 y, .int .i64 z] ∧
  ((bq s q = none ∧ z ≠ 0) ∨ ∃ n q', bq s q = some (n, q') ∧ x = n ∧ y = (q' : Int) ∧ z = 0) := by
 have e : hQ s (q : Int) = bi s q 10 0 0 := by unfold hQ; rw [if_neg (by omega)]; rfl
 unfold ix bq
 rw [if_neg (by omega), e]
 cases h : bi s q 10 0 0 with
 | error c => exact ⟨0, 0, c, rfl, .inl ⟨rfl, by have := lJ 10 0 0 h; omega⟩⟩
 | ok x => exact ⟨_, _, 0, rfl, .inr ⟨_, _, rfl, rfl, rfl, rfl⟩⟩
def dl (w : World) (b : Nat) (t : ByteArray) (q : Nat) (bad : Bool) : Prop := w.cell? ⟨b, 0, none⟩ = some (.string t) ∧ w.cell? ⟨b, 1, none⟩ = some (.int .i64 (q : Int)) ∧ w.cell? ⟨b, 2, none⟩ = some (.bool bad) ∧ w.frozen? ⟨b, 1, none⟩ = false ∧ w.frozen? ⟨b, 2, none⟩ = false
theorem dl.lt {w : World} {b : Nat} {t : ByteArray} {q : Nat} {bad : Bool} (h : dl w b t q bad) : b < w.heap.size := World.block_lt_of_cell? w _ h.1
theorem dl.kept {w w' : World} {b : Nat} {t : ByteArray} {q : Nat} {bad : Bool} (h : dl w b t q bad) (hB : Below w.heap.size w w') : dl w' b t q bad := by
 have hb := h.lt
 obtain ⟨h0, h1, h2, f1, f2⟩ := h
 exact ⟨by rw [hB.cell (p := ⟨b, 0, none⟩) hb]; exact h0, by rw [hB.cell (p := ⟨b, 1, none⟩) hb]; exact h1, by rw [hB.cell (p := ⟨b, 2, none⟩) hb]; exact h2, by rw [hB.frozen (p := ⟨b, 1, none⟩) hb]; exact f1, by rw [hB.frozen (p := ⟨b, 2, none⟩) hb]; exact f2⟩
theorem dl.grown {w w' : World} {b : Nat} {t : ByteArray} {q : Nat} {bad : Bool} {row : Option Nat} (h : dl w b t q bad) (hg : w.grownBy w' row) (hne : some b ≠ row) : dl w' b t q bad := by
 have hb := h.lt
 obtain ⟨h0, h1, h2, f1, f2⟩ := h
 have e := hg.block b hb hne
 exact ⟨hg.cell h0 hne, hg.cell h1 hne, hg.cell h2 hne, by rw [World.frozen?_of_block (w := w) e]; exact f1, by rw [World.frozen?_of_block (w := w) e]; exact f2⟩
theorem dl.bad {w : World} {b : Nat} {t : ByteArray} {q : Nat} {bad : Bool} (h : dl w b t q bad) (y : Bool) : dl (w.setCell ⟨b, 2, none⟩ (.bool y)) b t q y := by
 obtain ⟨h0, h1, h2, f1, f2⟩ := h
 refine ⟨?_, ?_, ?_, ?_, ?_⟩
 ·go_simp
 ·go_simp
 ·go_simp
 ·simp only [World.frozen?_setCell]; exact f1
 ·simp only [World.frozen?_setCell]; exact f2
theorem dl.at {w : World} {b : Nat} {t : ByteArray} {q : Nat} {bad : Bool} (h : dl w b t q bad) (q' : Nat) : dl (w.setCell ⟨b, 1, none⟩ (.int .i64 (q' : Int))) b t q' bad := by
 obtain ⟨h0, h1, h2, f1, f2⟩ := h
 refine ⟨?_, ?_, ?_, ?_, ?_⟩
 ·go_simp
 ·go_simp
 ·go_simp
 ·simp only [World.frozen?_setCell]; exact f1
 ·simp only [World.frozen?_setCell]; exact f2
def ay (t : ByteArray) (q : Nat) (bad : Bool) : Int × Nat × Bool := if bad = true then (0, q, true) else match bq t q with | none => (0, q, true) | some (n, q') => (n, q', false)
theorem nf {wr wx : World} {b : Nat} {t : ByteArray} {q : Nat} {bad : Bool} (hr : dl wr b t q bad) (h : Below wr.heap.size wr wx) :
  (wx.cell? ⟨b, 0, none⟩ = some (.string t) ∧ wx.cell? ⟨b, 1, none⟩ = some (.int .i64 (q : Int))) ∧ Below wr.heap.size wr wx := ⟨⟨(hr.kept h).1, (hr.kept h).2.1⟩, h⟩
theorem gY (b : Nat) (t : ByteArray) (q : Nat) (bad : Bool) (w : World) (ht : t.size ≤ 8000) (hq : q ≤ 8000) (hR : dl w b t q bad) :
  Calls Tryz.prog 57 #[.pointer (some ⟨b, 0, none⟩)] w fun e w' => e = .returned (.int .i64 (ay t q bad).1) ∧ dl w' b t (ay t q bad).2.1 (ay t q bad).2.2 ∧ w.grownBy w' (some b) := by
 have HR := yz hR
 clear hR
 obtain ⟨x, y, z, hg, hz⟩ := rl (q := q) ht
 have HZ := yz hz
 have cG : Hid (∀ W : World, Calls Tryz.prog 99 #[.string t, .int .i64 (q : Int)] W fun e w' => e = .returned (.agg #[.int .i64 x, .int .i64 y, .int .i64 z]) ∧ Below W.heap.size W w') := yz (fun W => (kC t (q : Int) W (by omega) (by omega)).mono fun e w' h => ⟨by rw [h.1, hg], h.2⟩)
 clear hg hz
 go_enter Tryz.func57, Tryz.ntmps57
 go_wp2_with fail
 go_cut [3] (fun s wx => ∃ bb, s = .pointer (some ⟨bb, 0, none⟩) ∧ av wx bb x y z ∧ Below w.heap.size w wx)
 case first =>
  go_region_held (fun w' => (w'.cell? ⟨b, 0, none⟩ = some (.string t) ∧ w'.cell? ⟨b, 1, none⟩ = some (.int .i64 (q : Int))) ∧ Below w.heap.size w w') (first | exact nf (yy HR) (Below.refl _ _).drew | exact nf (yy HR) (iM (by assumption) _) | exact nf (yy HR) (by assumption) | exact nf (yy HR) (ey (by assumption) _) | exact nf (yy HR) (oe (by assumption) (by first | exact Nat.le_refl _ | exact Below.size (by assumption)) _ _ _)) ((go_at_call 99; refine (yy cG _).mono ?_; rintro e wn ⟨rfl, hx⟩; have hw := oa (w1 := w) hx (by assumption); first | (have hr : oq wn w.heap.size := pG hx; have hr2 := hr; obtain ⟨⟨r0, r1, r2⟩, f0, f1, f2⟩ := hr2) | (have hr := rD hx; have hr2 := hr; obtain ⟨⟨r0, r1, r2⟩, f0, f1, f2⟩ := hr2) | (have hr := pE (by assumption) hx; have hr2 := hr; obtain ⟨⟨r0, r1, r2⟩, f0, f1, f2⟩ := hr2) | skip))
  all_goals (go_wp2_with fail; go_meet; refine ⟨_, rfl, ?_, ?_⟩)
  all_goals first | (with_reducible exact aw _ _ _ _ _) | (with_reducible exact ey (by assumption) _) | (with_reducible exact kM (by assumption) _ _ _) | (with_reducible exact iR (by assumption) (by first | exact Nat.le_refl _ | exact Below.size (by assumption)) _ _ _) | trace_state
 case rest =>
  obtain ⟨bb, rfl, v5, hx⟩ := hcut
  have R2 := yz ((yy HR).kept hx)
  have G2 := yz (oE (b := b) hx)
  obtain ⟨v0, v1, v2⟩ := v5
  obtain ⟨c0, c1, c2, f1, f2⟩ := yy R2
  clear hx cG
  cases bad
  ·rcases yy HZ with ⟨hn, hz⟩ | ⟨n, q', hn, rfl, rfl, rfl⟩
   ·have HV : Hid (ay t q false = (0, q, true)) := yz (by unfold ay; rw [hn]; rfl)
    have hz' : (z == 0) = false := by simp [hz]
    have hz2 : (z != 0) = true := by simp [hz]
    clear hn
    go_wp2_with fail
    go_ret
    exact ⟨by rw [yy HV]; rfl, by rw [yy HV]; exact (yy R2).bad true, aX (yy G2) _ _⟩
   ·have HV : Hid (ay t q false = (x, q', false)) := yz (by unfold ay; rw [hn]; rfl)
    clear hn
    go_wp2_with fail
    go_ret
    exact ⟨by rw [yy HV]; rfl, by rw [yy HV]; exact (yy R2).at q', aX (yy G2) _ _⟩
  ·have HV : Hid (ay t q true = (0, q, true)) := yz rfl
   go_wp2_with fail
   go_ret
   exact ⟨by rw [yy HV]; rfl, by rw [yy HV]; exact (yy R2).bad true, aX (yy G2) _ _⟩
def gX (t : ByteArray) (q : Nat) (bad : Bool) (most : Int) : Int × Nat × Bool :=
  if 0 ≤ (ay t q bad).1 ∧ (ay t q bad).1 ≤ most then ay t q bad else (0, (ay t q bad).2.1, true)
theorem rA (b : Nat) (t : ByteArray) (q : Nat) (bad : Bool) (most : Int) (w : World) (ht : t.size ≤ 8000) (hq : q ≤ 8000) (hR : dl w b t q bad) :
    Calls Tryz.prog 56 #[.pointer (some ⟨b, 0, none⟩), .int .i64 most] w fun e w' => e = .returned (.int .i64 (gX t q bad most).1) ∧ dl w' b t (gX t q bad most).2.1 (gX t q bad most).2.2 ∧ w.grownBy w' (some b) := by
  have cN := yz (gY b t q bad w ht hq hR)
  have HM : Hid (gX t q bad most = if 0 ≤ (ay t q bad).1 ∧ (ay t q bad).1 ≤ most then ay t q bad else (0, (ay t q bad).2.1, true)) := yz rfl
  clear hR
  generalize gX t q bad most = mv at *
  generalize ay t q bad = nv at *
  obtain ⟨n, q', bad'⟩ := nv
  go_enter Tryz.func56, Tryz.ntmps56
  go_wp2_with fail
  refine (yy cN).mono ?_
  rintro e w1 ⟨rfl, hr, hg⟩
  have R1 := yz hr
  have G1 := yz hg
  clear hr hg cN
  go_wp2_with fail
  refine (bF n 0 most _).mono ?_
  rintro e w2 ⟨rfl, hw⟩
  rw [hw]
  clear hw w2
  obtain ⟨c0, c1, c2, f1, f2⟩ := yy R1
  by_cases h : 0 ≤ n ∧ n ≤ most
  · rw [if_pos h] at HM
    have hd : (decide (0 ≤ n) && decide (n ≤ most)) = true := by simp [h.1, h.2]
    rw [hd]
    go_wp2_with fail
    go_ret
    exact ⟨by rw [yy HM]; rfl, by rw [yy HM]; exact yy R1, yy G1⟩
  · rw [if_neg h] at HM
    have hd : (decide (0 ≤ n) && decide (n ≤ most)) = false := by
      rw [Bool.and_eq_false_iff, decide_eq_false_iff_not, decide_eq_false_iff_not]; omega
    rw [hd]
    go_wp2_with fail
    go_ret
    exact ⟨by rw [yy HM]; rfl, by rw [yy HM]; exact (yy R1).bad true, aX (yy G1) _ _⟩
def dz (t : ByteArray) (q : Nat) (bad : Bool) : (Int × Int × Int) × Nat × Bool :=
  ((( ay t q bad).1, (ay t (ay t q bad).2.1 (ay t q bad).2.2).1, (ay t (ay t (ay t q bad).2.1 (ay t q bad).2.2).2.1 (ay t (ay t q bad).2.1 (ay t q bad).2.2).2.2).1),
   (ay t (ay t (ay t q bad).2.1 (ay t q bad).2.2).2.1 (ay t (ay t q bad).2.1 (ay t q bad).2.2).2.2).2)
theorem av.grownF {w w' : World} {b : Nat} {x y z : Int} {row : Option Nat} (h : av w b x y z) (hg : w.grownBy w' row) (hne : some b ≠ row) : av w' b x y z :=
  ⟨hg.cell h.1 hne, hg.cell h.2.1 hne, hg.cell h.2.2 hne⟩
theorem bd.grownF {w w' : World} {b : Nat} {row : Option Nat} (h : bd w b) (hb : b < w.heap.size) (hg : w.grownBy w' row) (hne : some b ≠ row) : bd w' b := by
  have e := hg.block b hb hne
  exact ⟨by rw [World.frozen?_of_block (w := w) e]; exact h.1, by rw [World.frozen?_of_block (w := w) e]; exact h.2.1, by rw [World.frozen?_of_block (w := w) e]; exact h.2.2⟩
theorem eE {t : ByteArray} {q : Nat} {bad : Bool} (ht : t.size ≤ 8000) (hq : q ≤ 8000) : (ay t q bad).2.1 ≤ 8000 := by
  unfold ay
  split
  · exact hq
  · cases h : bq t q with
    | none => exact hq
    | some x => exact Nat.le_trans (bg (n := x.1) (q := x.2) (by rw [h])).2 ht
theorem dl.set {w : World} {b c i : Nat} {t : ByteArray} {q : Nat} {bad : Bool} {v : Value} (h : dl w b t q bad) (hne : c ≠ b) : dl (w.setCell ⟨c, i, none⟩ v) b t q bad := by
  obtain ⟨h0, h1, h2, f1, f2⟩ := h
  have hn : b ≠ c := fun e => hne e.symm
  refine ⟨?_, ?_, ?_, ?_, ?_⟩
  · rw [World.cell?_setCell_far _ _ _ _ hne]; exact h0
  · rw [World.cell?_setCell_far _ _ _ _ hne]; exact h1
  · rw [World.cell?_setCell_far _ _ _ _ hne]; exact h2
  · simp only [World.frozen?_setCell]; exact f1
  · simp only [World.frozen?_setCell]; exact f2
theorem gQ {w w1 : World} {c i : Nat} {v : Value} {row : Option Nat} (h : w.grownBy w1 row) (hc : w.heap.size ≤ c) : w.grownBy (w1.setCell ⟨c, i, none⟩ v) row :=
  ⟨h.os, h.tape, h.output, by simpa using h.size, fun k hk hn => by rw [Below.heap_setCell _ _ _ _ (show k ≠ c by omega)]; exact h.block k hk hn⟩
theorem av.set1 {w : World} {b : Nat} {x y z : Int} (h : av w b x y z) (u : Int) : av (w.setCell ⟨b, 1, none⟩ (.int .i64 u)) b x u z := by
  obtain ⟨h0, h1, h2⟩ := h
  refine ⟨?_, ?_, ?_⟩ <;> simp [go_sem, h0, h1, h2]
theorem av.far {w : World} {b c i : Nat} {v : Value} {x y z : Int} (h : av w b x y z) (hn : c ≠ b) : av (w.setCell ⟨c, i, none⟩ v) b x y z :=
  ⟨by rw [World.cell?_setCell_far _ _ _ _ hn]; exact h.1, by rw [World.cell?_setCell_far _ _ _ _ hn]; exact h.2.1, by rw [World.cell?_setCell_far _ _ _ _ hn]; exact h.2.2⟩
theorem bd.set {w : World} {b : Nat} {a : Addr} {v : Value} (h : bd w b) : bd (w.setCell a v) b := by
  unfold bd
  simp only [World.frozen?_setCell]
  exact h
theorem qx (b : Nat) (t : ByteArray) (q : Nat) (bad : Bool) (w : World) (ht : t.size ≤ 8000) (hq : q ≤ 8000) (hR : dl w b t q bad) :
    Calls Tryz.prog 58 #[.pointer (some ⟨b, 0, none⟩)] w fun e w' => e = .returned (.agg #[.int .i64 (dz t q bad).1.1, .int .i64 (dz t q bad).1.2.1, .int .i64 (dz t q bad).1.2.2]) ∧ dl w' b t (dz t q bad).2.1 (dz t q bad).2.2 ∧ w.grownBy w' (some b) := by
  have hb := yz hR.lt
  have HV : Hid (dz t q bad = dz t q bad) := yz rfl
  generalize e0 : dz t q bad = vv at HV ⊢
  unfold dz at e0
  have l1 := eE (bad := bad) ht hq
  have R0 := yz (hR.kept (am w (.cells #[.int .i64 0, .int .i64 0, .int .i64 0] 33)))
  have c1 := yz (gY b t q bad (w.alloc (.cells #[.int .i64 0, .int .i64 0, .int .i64 0] 33)) ht hq (yy R0))
  have G0 : Hid (w.grownBy (w.alloc (.cells #[.int .i64 0, .int .i64 0, .int .i64 0] 33)) (some b)) := yz (oE (am w _))
  have A0 := yz (aw w 0 0 0 33)
  have F0 := yz (aV w 0 0 0 33)
  clear hR R0 HV
  generalize ay t q bad = n1 at *
  obtain ⟨x, q1, bad1⟩ := n1
  simp only at l1 e0
  have l2 := eE (bad := bad1) ht l1
  have hne : Hid (some w.heap.size ≠ some b) := yz (by have := yy hb; simp; omega)
  go_enter Tryz.func58, Tryz.ntmps58
  go_wp2_with fail
  refine (yy c1).mono ?_
  rintro e w1 ⟨rfl, hr, hg⟩
  have G1 := yz (jA (yy G0) hg)
  have A1 := yz ((yy A0).grownF hg (yy hne))
  have F1 := yz ((yy F0).grownF (by simp) hg (yy hne))
  have R1 := yz hr
  clear hr hg c1 G0 A0 F0
  have hc : b < w1.heap.size := (yy R1).lt
  have ha : w.heap.size < w1.heap.size := av.lt' (yy A1)
  have Z2 := yz (am w1 (.cells #[.int .i64 x, .int .i64 0, .int .i64 0] 33))
  have R2 := yz ((yy R1).kept (yy Z2))
  have G2 := yz (jA (yy G1) (oE (b := b) (yy Z2)))
  have A2 := yz ((yy A1).kept ha (yy Z2))
  have F2 := yz ((yy F1).kept ha (yy Z2))
  have V2 := yz (aw w1 x 0 0 33)
  have U2 := yz (aV w1 x 0 0 33)
  have hlt : w1.heap.size < (w1.alloc (.cells #[.int .i64 x, .int .i64 0, .int .i64 0] 33)).heap.size := av.lt' (yy V2)
  clear R1 G1 A1 F1 Z2
  go_wp2_with fail
  generalize w1.alloc (.cells #[.int .i64 x, .int .i64 0, .int .i64 0] 33) = W2 at *
  generalize w1.heap.size = c at *
  have c2 := yz (gY b t q1 bad1 W2 ht l1 (yy R2))
  generalize ay t q1 bad1 = n2 at *
  obtain ⟨y, q2, bad2⟩ := n2
  simp only at l2 e0
  have hnc : Hid (some c ≠ some b) := yz (by simp; omega)
  refine (yy c2).mono ?_
  rintro e w3 ⟨rfl, hr, hg⟩
  have G3 := yz (gQ (c := c) (i := 1) (v := .int .i64 y) (jA (yy G2) hg) (by omega))
  have A3 := yz (((yy A2).grownF hg (yy hne)).far (c := c) (i := 1) (v := .int .i64 y) (by omega))
  have F3 := yz (((yy F2).grownF (by omega) hg (yy hne)).set (a := ⟨c, 1, none⟩) (v := .int .i64 y))
  obtain ⟨v0, v1, v2⟩ := (yy V2).grownF hg (yy hnc)
  obtain ⟨u0, u1, u2⟩ := (yy U2).grownF (by omega) hg (yy hnc)
  have V3 := yz (((yy V2).grownF hg (yy hnc)).set1 y)
  have U3 := yz (((yy U2).grownF (by omega) hg (yy hnc)).set (a := ⟨c, 1, none⟩) (v := .int .i64 y))
  have R3 := yz (hr.set (c := c) (i := 1) (v := .int .i64 y) (by omega))
  clear hr hg c2 G2 A2 F2 V2 U2 R2
  go_wp2_with fail
  clear v0 v1 v2 u0 u1 u2
  generalize w3.setCell ⟨c, 1, none⟩ (.int .i64 y) = W3 at *
  have c3 := yz (gY b t q2 bad2 W3 ht l2 (yy R3))
  generalize ay t q2 bad2 = n3 at *
  obtain ⟨z, q3, bad3⟩ := n3
  simp only at e0
  subst e0
  have hl3 : c < W3.heap.size := av.lt' (yy V3)
  have hm3 : w.heap.size < W3.heap.size := av.lt' (yy A3)
  refine (yy c3).mono ?_
  rintro e w4 ⟨rfl, hr, hg⟩
  have G4 := yz (gQ (c := c) (i := 2) (v := .int .i64 z) (jA (yy G3) hg) (by omega))
  obtain ⟨a0, a1, a2⟩ := (yy A3).grownF hg (yy hne)
  obtain ⟨f0, f1, f2⟩ := (yy F3).grownF hm3 hg (yy hne)
  obtain ⟨v0, v1, v2⟩ := (yy V3).grownF hg (yy hnc)
  obtain ⟨u0, u1, u2⟩ := (yy U3).grownF hl3 hg (yy hnc)
  have R4 := yz (hr.set (c := c) (i := 2) (v := .int .i64 z) (by omega))
  have hca : Hid (c ≠ w.heap.size) := yz (by omega)
  have hb' := yy hb
  clear hr hg c3 G3 A3 F3 V3 U3 R3
  have n0 : w.heap.size ≠ c := by omega
  go_wp2_with fail
  exact bodyPost_ret (v := .agg #[.int .i64 x, .int .i64 y, .int .i64 z]) (by simp [results, Tryz.results58, go_sem, a0, a1, a2]) rfl ⟨rfl, (((yy R4).set (by omega)).set (by omega)).set (by omega), gQ (gQ (gQ (yy G4) (by omega)) (by omega)) (by omega)⟩
def spB (x y : Sp) : Bool := decide (0 < fy y x)
def bI (s : Sp) (S : List Sp) : Nat → Nat
 | 0 => 0
 | k + 1 => if spB s (spA S k) = true then bI s S k else k + 1
def gq (s : Sp) (S : List Sp) : List Sp := S.take (bI s S S.length) ++ [s] ++ S.drop (bI s S S.length)
def eC (L : List St) (s : Sp) : Prop := ∃ i j, i < L.length ∧ j < L.length ∧ s = bP L i j
theorem jG {S : List Sp} {k : Nat} (h : k < S.length) : spA S k ∈ S ∧ prA (S.map Prod.fst) k = (spA S k).1 := by
 have e : spA S k = S[k] := by unfold spA; rw [List.getD, List.getElem?_eq_getElem h]; rfl
 refine ⟨by rw [e]; exact List.getElem_mem h, ?_⟩
 rw [e]
 unfold prA
 rw [List.getD, List.getElem?_eq_getElem (by simpa using h)]
 simp
theorem mN {L : List St} (h : aB L = true) {s : Sp} (hs : eC L s) {S : List Sp} (hS : ∀ t ∈ S, eC L t) : ∀ k, k ≤ S.length → bI s S k = fe (eD L) s.1 (S.map Prod.fst) k
 | 0, _ => rfl
 | k + 1, hk => by
  obtain ⟨hm, he⟩ := jG (S := S) (k := k) (by omega)
  obtain ⟨i, j, hi, hj, rfl⟩ := hs
  obtain ⟨a, b, ha, hb, e⟩ := hS _ hm
  have hf : spB (bP L i j) (spA S k) = eD L (bP L i j).1 (prA (S.map Prod.fst) k) := by
   rw [he, e]
   exact pg h hi hj ha hb
  rw [bI, fe, hf, mN h ⟨i, j, hi, hj, rfl⟩ hS k (by omega)]
theorem rp {L : List St} (h : aB L = true) {s : Sp} (hs : eC L s) {S : List Sp} (hS : ∀ t ∈ S, eC L t) : (gq s S).map Prod.fst = me (eD L) s.1 (S.map Prod.fst) := by
 unfold gq me
 rw [List.map_append, List.map_append, List.map_take, List.map_drop, mN h hs hS _ (Nat.le_refl _), List.length_map]
 rfl
theorem qp {L : List St} {s : Sp} (hs : eC L s) {S : List Sp} (hS : ∀ t ∈ S, eC L t) : ∀ t ∈ gq s S, eC L t := by
 intro t ht
 unfold gq at ht
 rw [List.mem_append, List.mem_append] at ht
 rcases ht with (ht | ht) | ht
 ·exact hS t (List.mem_of_mem_take ht)
 ·rw [List.mem_singleton.1 ht]; exact hs
 ·exact hS t (List.mem_of_mem_drop ht)
def pe (L : List St) (S : List Sp) (i : Nat) : Nat → List Sp
 | 0 => S
 | m + 1 => gq (bP L i (i + 1 + m)) (pe L S i m)
def bp (L : List St) : Nat → List Sp
 | 0 => []
 | i + 1 => pe L (bp L i) i (L.length - (i + 1))
theorem kt {L : List St} (h : aB L = true) {S : List Sp} (hS : ∀ t ∈ S, eC L t) {i : Nat} (hi : i < L.length) : ∀ m, i + m < L.length → (pe L S i m).map Prod.fst = iI L (S.map Prod.fst) i m ∧ ∀ t ∈ pe L S i m, eC L t
 | 0, _ => ⟨rfl, hS⟩
 | m + 1, hm => by
  obtain ⟨e, g⟩ := kt h hS hi m (by omega)
  have hs : eC L (bP L i (i + 1 + m)) := ⟨i, i + 1 + m, hi, by omega, rfl⟩
  refine ⟨?_, qp hs g⟩
  rw [pe, iI, rp h hs g, e]
  rfl
theorem ed {L : List St} (h : aB L = true) : ∀ i, i ≤ L.length → (bp L i).map Prod.fst = dG L i ∧ ∀ t ∈ bp L i, eC L t
 | 0, _ => ⟨rfl, fun t ht => by cases ht⟩
 | i + 1, hi => by
  obtain ⟨e, g⟩ := ed h i (by omega)
  have := kt h g (i := i) (by omega) (L.length - (i + 1)) (by omega)
  rw [bp, dG, ← e]
  exact this
theorem fj (s : Sp) (S : List Sp) : ∀ k, bI s S k ≤ k
 | 0 => Nat.le_refl _
 | k + 1 => by unfold bI; split <;> have := fj s S k <;> omega
theorem nt (s : Sp) (S : List Sp) : (gq s S).length = S.length + 1 := by
 have := fj s S S.length
 unfold gq
 simp
 omega
def cd (S : List Sp) : List Sp := S.foldl (fun P s => gq s P) []
theorem nl (S : List Sp) (s : Sp) : cd (S ++ [s]) = gq s (cd S) := by unfold cd; rw [List.foldl_append]; rfl
theorem nr (S : List Sp) : ∀ P : List Sp, (S.foldl (fun P s => gq s P) P).length = P.length + S.length := by
 induction S with
 | nil => intro P; rfl
 | cons x l ih => intro P; rw [List.foldl_cons, ih, nt, List.length_cons]; omega
theorem eX (S : List Sp) : (cd S).length = S.length := by unfold cd; rw [nr]; simp
theorem kI (S : List Sp) (k : Nat) (h : k < S.length) : S.take (k + 1) = S.take k ++ [spA S k] := by
 rw [List.take_succ_eq_append_getElem h]
 congr 2
 unfold spA
 rw [List.getD, List.getElem?_eq_getElem h]
 rfl
theorem np (S : List Sp) (k : Nat) (h : k < S.length) : cd (S.take (k + 1)) = gq (spA S k) (cd (S.take k)) := by rw [kI S k h, nl]
def sh (s : Sp) : Nat → Int
 | 0 => s.1.1
 | 1 => s.1.2
 | 2 => s.2.1.1
 | 3 => s.2.1.2.1
 | 4 => s.2.1.2.2
 | 5 => s.2.2.1
 | 6 => s.2.2.2.1
 | _ => s.2.2.2.2
def bz (m : Nat → Sp) (q : Nat) : Int := sh (m (q / 8)) (q % 8)
def eN (P : List Sp) (s : Sp) (R : Nat → Sp) (j i : Nat) : Sp := if i < j then spA P i else if i = j then s else if i ≤ P.length then spA P (i - 1) else R i
theorem pF (P : List Sp) (s : Sp) (R : Nat → Sp) (j : Nat) : eN P s R j j = s := by unfold eN; rw [if_neg (Nat.lt_irrefl _), if_pos rfl]
theorem iZ (P : List Sp) (s : Sp) (R : Nat → Sp) (j : Nat) : eN P s R (j + 1) j = spA P j := by unfold eN; rw [if_pos (by omega)]
theorem qs (P : List Sp) (s : Sp) (R : Nat → Sp) (j : Nat) (h : j < P.length) (i : Nat) : eN P s R j i = if i = j then s else if i = j + 1 then spA P j else eN P s R (j + 1) i := by
 unfold eN
 by_cases h1 : i = j
 ·subst h1; simp
 ·by_cases h2 : i = j + 1
  ·subst h2
   rw [if_neg (by omega), if_neg (by omega), if_pos (by omega), if_neg (by omega), if_pos rfl, Nat.add_sub_cancel]
  ·by_cases h3 : i < j
   ·have : i < j + 1 := by omega
    simp [h1, h2, h3, this]
   ·have : ¬ i < j + 1 := by omega
    simp [h1, h2, h3, this]
theorem oM (P : List Sp) (s : Sp) (R : Nat → Sp) (i : Nat) : eN P s R P.length i = if i < P.length then spA P i else if i = P.length then s else R i := by
 unfold eN
 by_cases h1 : i < P.length
 ·rw [if_pos h1, if_pos h1]
 ·rw [if_neg h1, if_neg h1]
  by_cases h2 : i = P.length
  ·rw [if_pos h2, if_pos h2]
  ·rw [if_neg h2, if_neg h2, if_neg (by omega)]
theorem ky (s : Sp) (P : List Sp) (R : Nat → Sp) (i : Nat) (h : i ≤ P.length) : spA (gq s P) i = eN P s R (bI s P P.length) i := by
 have hb := fj s P P.length
 unfold gq eN spA
 generalize bI s P P.length = k at *
 rw [List.getD, List.getD, List.getD]
 by_cases h1 : i < k
 ·rw [if_pos h1, List.append_assoc, List.getElem?_append_left (by simp; omega), List.getElem?_take_of_lt h1]
 ·rw [if_neg h1]
  have hk : (P.take k).length = k := by simp; omega
  by_cases h2 : i = k
  ·rw [if_pos h2, List.append_assoc, List.getElem?_append_right (by omega), hk, h2]
   simp
  ·rw [if_neg h2, if_pos h, List.append_assoc, List.getElem?_append_right (by omega), hk, List.getElem?_append_right (by simp; omega), List.getElem?_drop]
   congr 2
   simp
   omega
theorem ow (s : Sp) (P : List Sp) (j : Nat) (h : spB s (spA P j) = true) : bI s P (j + 1) = bI s P j := by rw [bI, if_pos h]
theorem oy (s : Sp) (P : List Sp) (j : Nat) (h : spB s (spA P j) = false) : bI s P (j + 1) = j + 1 := by rw [bI, if_neg (by rw [h]; simp)]
def fu (L : List St) (i m : Nat) : List Sp := (List.range m).map fun k => bP L i (i + 1 + k)
def bf (L : List St) : Nat → List Sp
 | 0 => []
 | i + 1 => bf L i ++ fu L i (L.length - (i + 1))
theorem lH (L : List St) (i m : Nat) : fu L i (m + 1) = fu L i m ++ [bP L i (i + 1 + m)] := by unfold fu; rw [List.range_succ, List.map_append]; rfl
theorem pD (L : List St) (i : Nat) (S : List Sp) : ∀ m, (fu L i m).foldl (fun P s => gq s P) S = pe L S i m
 | 0 => rfl
 | m + 1 => by rw [lH, List.foldl_append, pD L i S m]; rfl
theorem fo (L : List St) : ∀ i, cd (bf L i) = bp L i
 | 0 => rfl
 | i + 1 => by
  have h := fo L i
  unfold cd at *
  rw [bf, List.foldl_append, h, pD]
  rfl
theorem nN (L : List St) (i m : Nat) : (fu L i m).length = m := by unfold fu; simp
theorem iC (L : List St) (h : L.length ≤ 12) : ∀ i, i ≤ L.length → (bf L i).length ≤ 12 * i
 | 0, _ => Nat.le_refl _
 | i + 1, hi => by rw [bf, List.length_append, nN]; have := iC L h i (by omega); omega
end
end Go.Proofs.YthoiooefclbecaaGreatDoor
