/- The laws on Apply and Compose, walked; what a place made in the midst of a statement holds. -/
import Derived.Test.YtpjofdbeflhjnafTLawA

import Derived.Deep.RegionHeld
import Derived.Deep.DeepCutAuto
namespace Go.Proofs.Ytpjofdbeflhjnaf
open Go.RowKit Go.Sort
set_option linter.unusedVariables false

theorem vvlt {w : World} {b : Nat} {x y z : Int} (h : VecAt w b x y z) : b < w.heap.size := World.block_lt_of_cell? w _ h.1
theorem tstepCall {w1 wx wn : World} {X : Prop} (hx : Below wx.heap.size wx wn) (h : X ∧ Below w1.heap.size w1 wx) : Below w1.heap.size w1 wn := below_call h.2 hx
theorem tstepAlloc {w1 wx : World} {X : Prop} (h : X ∧ Below w1.heap.size w1 wx) (o : Obj) : Below w1.heap.size w1 (wx.alloc o) := h.2.alloc h.2.size _
theorem tstepAlloc2 {w1 wx : World} (h : Below w1.heap.size w1 wx) (o : Obj) : Below w1.heap.size w1 (wx.alloc o) := h.alloc h.size _

def ResV (w : World) (b : Nat) : Prop := VecAt w b 0 0 0 ∧ FreeAt w b
theorem newV {wy wn : World} {t : TypeId} (hx : Below (wy.alloc (.cells #[.int .i64 0, .int .i64 0, .int .i64 0] t)).heap.size (wy.alloc (.cells #[.int .i64 0, .int .i64 0, .int .i64 0] t)) wn) : ResV wn wy.heap.size :=
  ⟨(vecAt_new wy 0 0 0 t).kept (by simp) hx, (freeAt_new wy 0 0 0 t).kept (by simp) hx⟩
theorem newVD {wy wn : World} {t : TypeId} (hx : Below ((wy.alloc (.cells #[.int .i64 0, .int .i64 0, .int .i64 0] t)).drew).heap.size ((wy.alloc (.cells #[.int .i64 0, .int .i64 0, .int .i64 0] t)).drew) wn) : ResV wn wy.heap.size :=
  ⟨(show VecAt (wy.alloc (.cells #[.int .i64 0, .int .i64 0, .int .i64 0] t)).drew wy.heap.size 0 0 0 from vecAt_new wy 0 0 0 t).kept (by simp) hx, (show FreeAt (wy.alloc (.cells #[.int .i64 0, .int .i64 0, .int .i64 0] t)).drew wy.heap.size from freeAt_new wy 0 0 0 t).kept (by simp) hx⟩
theorem keptV {wx wn : World} {b : Nat} (h : ResV wx b) (hx : Below wx.heap.size wx wn) : ResV wn b := ⟨h.1.kept (vvlt h.1) hx, h.2.kept (vvlt h.1) hx⟩
theorem setV {w : World} {b : Nat} (h : ResV w b) (x y z : Int) : VecAt (((w.setCell ⟨b, 0, none⟩ (.int .i64 x)).setCell ⟨b, 1, none⟩ (.int .i64 y)).setCell ⟨b, 2, none⟩ (.int .i64 z)) b x y z := by
  obtain ⟨⟨h0, h1, h2⟩, _⟩ := h
  refine ⟨?_, ?_, ?_⟩ <;> simp [go_sem, h0, h1, h2]
theorem bsetV {w1 wx : World} {b : Nat} (h : Below w1.heap.size w1 wx) (hb : w1.heap.size ≤ b) (x y z : Value) : Below w1.heap.size w1 (((wx.setCell ⟨b, 0, none⟩ x).setCell ⟨b, 1, none⟩ y).setCell ⟨b, 2, none⟩ z) := ((h.setCell hb _).setCell hb _).setCell hb _
theorem stepV {w1 wx : World} {X : Prop} {b : Nat} (h : X ∧ Below w1.heap.size w1 wx) (hb : w1.heap.size ≤ b) (x y z : Value) : Below w1.heap.size w1 (((wx.setCell ⟨b, 0, none⟩ x).setCell ⟨b, 1, none⟩ y).setCell ⟨b, 2, none⟩ z) := ((h.2.setCell hb _).setCell hb _).setCell hb _

def ResO (w : World) (b : Nat) : Prop := OutAt w b 0 0 0 0 0 ∧ FreeO w b
theorem newO {wy wn : World} {t : TypeId} (hx : Below (wy.alloc (.cells #[.int .i64 0, .int .i64 0, .int .i64 0, .int .i64 0, .int .i64 0] t)).heap.size (wy.alloc (.cells #[.int .i64 0, .int .i64 0, .int .i64 0, .int .i64 0, .int .i64 0] t)) wn) : ResO wn wy.heap.size :=
  ⟨(outAt_new wy 0 0 0 0 0 t).kept hx, (freeO_new wy 0 0 0 0 0 t).kept (by simp) hx⟩
theorem newOD {wy wn : World} {t : TypeId} (hx : Below ((wy.alloc (.cells #[.int .i64 0, .int .i64 0, .int .i64 0, .int .i64 0, .int .i64 0] t)).drew).heap.size ((wy.alloc (.cells #[.int .i64 0, .int .i64 0, .int .i64 0, .int .i64 0, .int .i64 0] t)).drew) wn) : ResO wn wy.heap.size :=
  ⟨(show OutAt (wy.alloc (.cells #[.int .i64 0, .int .i64 0, .int .i64 0, .int .i64 0, .int .i64 0] t)).drew wy.heap.size 0 0 0 0 0 from outAt_new wy 0 0 0 0 0 t).kept hx, (show FreeO (wy.alloc (.cells #[.int .i64 0, .int .i64 0, .int .i64 0, .int .i64 0, .int .i64 0] t)).drew wy.heap.size from freeO_new wy 0 0 0 0 0 t).kept (by simp) hx⟩
theorem keptO {wx wn : World} {b : Nat} (h : ResO wx b) (hx : Below wx.heap.size wx wn) : ResO wn b := ⟨h.1.kept hx, h.2.kept h.1.lt hx⟩
theorem setO {w : World} {b : Nat} (h : ResO w b) (x y z u v : Int) : OutAt (((((w.setCell ⟨b, 0, none⟩ (.int .i64 x)).setCell ⟨b, 1, none⟩ (.int .i64 y)).setCell ⟨b, 2, none⟩ (.int .i64 z)).setCell ⟨b, 3, none⟩ (.int .i64 u)).setCell ⟨b, 4, none⟩ (.int .i64 v)) b x y z u v := by
  obtain ⟨⟨h0, h1, h2, h3, h4⟩, _⟩ := h
  refine ⟨?_, ?_, ?_, ?_, ?_⟩ <;> simp [go_sem, h0, h1, h2, h3, h4]
theorem bsetO {w1 wx : World} {b : Nat} (h : Below w1.heap.size w1 wx) (hb : w1.heap.size ≤ b) (x y z u v : Value) : Below w1.heap.size w1 (((((wx.setCell ⟨b, 0, none⟩ x).setCell ⟨b, 1, none⟩ y).setCell ⟨b, 2, none⟩ z).setCell ⟨b, 3, none⟩ u).setCell ⟨b, 4, none⟩ v) := ((((h.setCell hb _).setCell hb _).setCell hb _).setCell hb _).setCell hb _
theorem stepO {w1 wx : World} {X : Prop} {b : Nat} (h : X ∧ Below w1.heap.size w1 wx) (hb : w1.heap.size ≤ b) (x y z u v : Value) : Below w1.heap.size w1 (((((wx.setCell ⟨b, 0, none⟩ x).setCell ⟨b, 1, none⟩ y).setCell ⟨b, 2, none⟩ z).setCell ⟨b, 3, none⟩ u).setCell ⟨b, 4, none⟩ v) := ((((h.2.setCell hb _).setCell hb _).setCell hb _).setCell hb _).setCell hb _

theorem holdTV {w1 wx : World} {A B : Nat} {p0 p1 p2 p3 q0 q1 q2 : Int} (va : TurnAt w1 A p0 p1 p2 p3) (vb : VecAt w1 B q0 q1 q2) (h : Below w1.heap.size w1 wx) : ((wx.cell? ⟨A, 0, none⟩ = some (.int .i64 p0) ∧ wx.cell? ⟨A, 1, none⟩ = some (.int .i64 p1) ∧ wx.cell? ⟨A, 2, none⟩ = some (.int .i64 p2) ∧ wx.cell? ⟨A, 3, none⟩ = some (.int .i64 p3) ∧ wx.cell? ⟨B, 0, none⟩ = some (.int .i64 q0) ∧ wx.cell? ⟨B, 1, none⟩ = some (.int .i64 q1) ∧ wx.cell? ⟨B, 2, none⟩ = some (.int .i64 q2)) ∧ Below w1.heap.size w1 wx) := by
  have ka := va.kept (World.block_lt_of_cell? w1 _ va.1) h
  have kb := vb.kept (World.block_lt_of_cell? w1 _ vb.1) h
  exact ⟨⟨ka.1, ka.2.1, ka.2.2.1, ka.2.2.2, kb.1, kb.2.1, kb.2.2⟩, h⟩

theorem holdTT {w1 wx : World} {A B : Nat} {p0 p1 p2 p3 q0 q1 q2 q3 : Int} (va : TurnAt w1 A p0 p1 p2 p3) (vb : TurnAt w1 B q0 q1 q2 q3) (h : Below w1.heap.size w1 wx) : ((wx.cell? ⟨A, 0, none⟩ = some (.int .i64 p0) ∧ wx.cell? ⟨A, 1, none⟩ = some (.int .i64 p1) ∧ wx.cell? ⟨A, 2, none⟩ = some (.int .i64 p2) ∧ wx.cell? ⟨A, 3, none⟩ = some (.int .i64 p3) ∧ wx.cell? ⟨B, 0, none⟩ = some (.int .i64 q0) ∧ wx.cell? ⟨B, 1, none⟩ = some (.int .i64 q1) ∧ wx.cell? ⟨B, 2, none⟩ = some (.int .i64 q2) ∧ wx.cell? ⟨B, 3, none⟩ = some (.int .i64 q3)) ∧ Below w1.heap.size w1 wx) := by
  have ka := va.kept (World.block_lt_of_cell? w1 _ va.1) h
  have kb := vb.kept (World.block_lt_of_cell? w1 _ vb.1) h
  exact ⟨⟨ka.1, ka.2.1, ka.2.2.1, ka.2.2.2, kb.1, kb.2.1, kb.2.2.1, kb.2.2.2⟩, h⟩

set_option maxRecDepth 100000 in
theorem toVec_any (x y z : Int) (w : World) :
    Calls Try.prog 15 #[.agg #[.int .i64 x, .int .i64 y, .int .i64 z]] w fun e w' => e = .returned (.agg #[.int .i64 x, .int .i64 y, .int .i64 z]) ∧ Below w.heap.size w w' := by
  go_enter Try.func15, Try.ntmps15
  go_wp2
  exact bodyPost_ret (v := .agg #[.int .i64 x, .int .i64 y, .int .i64 z]) (by simp [results, Try.results15, go_sem]) rfl ⟨rfl, below3 _ _ _ _⟩
set_option maxRecDepth 100000 in
theorem eqVec_any (x y z : Int) (w : World) :
    Calls Try.prog 17 #[.agg #[.int .i64 x, .int .i64 y, .int .i64 z], .agg #[.int .i64 x, .int .i64 y, .int .i64 z]] w fun e w' => e = .returned (.bool true) ∧ Below w.heap.size w w' := by
  go_enter Try.func17, Try.ntmps17
  go_wp2
  go_ret
  exact ⟨rfl, below2 _ _ _⟩

set_option maxHeartbeats 2000000 in
set_option maxRecDepth 100000 in
theorem lawCompose (s1 s2 s3 s4 t1 t2 t3 t4 : Int) (w : World) :
    Calls Try.prog 6 #[.agg #[.int .i64 s1, .int .i64 s2, .int .i64 s3, .int .i64 s4], .agg #[.int .i64 t1, .int .i64 t2, .int .i64 t3, .int .i64 t4]] w fun e w' => e = .returned (.bool true) ∧ Below w.heap.size w w' := by
  obtain ⟨g0, hg0⟩ : ∃ v, coP s1 s2 s3 s4 t1 t2 t3 t4 (coA s1 s2 s3 s4 t1 t2 t3 t4) = v := ⟨_, rfl⟩
  obtain ⟨g1, hg1⟩ : ∃ v, coP s1 s2 s3 s4 t1 t2 t3 t4 (coB s1 s2 s3 s4 t1 t2 t3 t4) = v := ⟨_, rfl⟩
  obtain ⟨g2, hg2⟩ : ∃ v, coP s1 s2 s3 s4 t1 t2 t3 t4 (coC s1 s2 s3 s4 t1 t2 t3 t4) = v := ⟨_, rfl⟩
  obtain ⟨g3, hg3⟩ : ∃ v, coP s1 s2 s3 s4 t1 t2 t3 t4 (coD s1 s2 s3 s4 t1 t2 t3 t4) = v := ⟨_, rfl⟩
  obtain ⟨g4, hg4⟩ : ∃ v, coK s1 s2 s3 s4 t1 t2 t3 t4 = v := ⟨_, rfl⟩
  have cS : Hid (∀ W : World, Calls Try.prog 18 #[.agg #[.int .i64 s1, .int .i64 s2, .int .i64 s3, .int .i64 s4], .agg #[.int .i64 t1, .int .i64 t2, .int .i64 t3, .int .i64 t4]] W fun e w' => e = .returned (.agg #[.int .i64 g0, .int .i64 g1, .int .i64 g2, .int .i64 g3, .int .i64 g4]) ∧ Below W.heap.size W w') := hide (fun W => by have h := specCompose_any s1 s2 s3 s4 t1 t2 t3 t4 W; rw [hg0, hg1, hg2, hg3, hg4] at h; exact h)
  have cI : Hid (∀ W : World, Calls Try.prog 19 #[.agg #[.int .i64 s1, .int .i64 s2, .int .i64 s3, .int .i64 s4], .agg #[.int .i64 t1, .int .i64 t2, .int .i64 t3, .int .i64 t4]] W fun e w' => e = .returned (.agg #[.int .i64 g0, .int .i64 g1, .int .i64 g2, .int .i64 g3, .int .i64 g4]) ∧ Below W.heap.size W w') := hide (fun W => by have h := compose_any s1 s2 s3 s4 t1 t2 t3 t4 W; rw [hg0, hg1, hg2, hg3, hg4] at h; exact h)
  clear hg0 hg1 hg2 hg3 hg4
  go_enter Try.func6, Try.ntmps6
  go_wp2_with fail
  have va : TurnAt ((w.alloc (.cells #[.int .i64 s1, .int .i64 s2, .int .i64 s3, .int .i64 s4] 23)).alloc (.cells #[.int .i64 t1, .int .i64 t2, .int .i64 t3, .int .i64 t4] 23)) w.heap.size s1 s2 s3 s4 := (by simpa using turnAt_new w s1 s2 s3 s4 _ : TurnAt (w.alloc (.cells #[.int .i64 s1, .int .i64 s2, .int .i64 s3, .int .i64 s4] 23)) w.heap.size s1 s2 s3 s4).kept (by simp) (below1 _ _)
  have vb : TurnAt ((w.alloc (.cells #[.int .i64 s1, .int .i64 s2, .int .i64 s3, .int .i64 s4] 23)).alloc (.cells #[.int .i64 t1, .int .i64 t2, .int .i64 t3, .int .i64 t4] 23)) (w.heap.size + 1) t1 t2 t3 t4 := by simpa using turnAt_new (w.alloc (.cells #[.int .i64 s1, .int .i64 s2, .int .i64 s3, .int .i64 s4] 23)) t1 t2 t3 t4 23
  have hB : Below w.heap.size w ((w.alloc (.cells #[.int .i64 s1, .int .i64 s2, .int .i64 s3, .int .i64 s4] 23)).alloc (.cells #[.int .i64 t1, .int .i64 t2, .int .i64 t3, .int .i64 t4] 23)) := below2 _ _ _
  generalize ((w.alloc (.cells #[.int .i64 s1, .int .i64 s2, .int .i64 s3, .int .i64 s4] 23)).alloc (.cells #[.int .i64 t1, .int .i64 t2, .int .i64 t3, .int .i64 t4] 23)) = w1 at va vb hB ⊢
  have Ha := hide va
  clear va
  have Hb := hide vb
  clear vb
  go_cut [5] (fun s wx => ∃ b, s = .pointer (some ⟨b, 0, none⟩) ∧ OutAt wx b g0 g1 g2 g3 g4 ∧ Below w1.heap.size w1 wx)
  case first =>
    go_region_held (fun w' => (w'.cell? ⟨w.heap.size, 0, none⟩ = some (.int .i64 s1) ∧ w'.cell? ⟨w.heap.size, 1, none⟩ = some (.int .i64 s2) ∧ w'.cell? ⟨w.heap.size, 2, none⟩ = some (.int .i64 s3) ∧ w'.cell? ⟨w.heap.size, 3, none⟩ = some (.int .i64 s4) ∧ w'.cell? ⟨w.heap.size + 1, 0, none⟩ = some (.int .i64 t1) ∧ w'.cell? ⟨w.heap.size + 1, 1, none⟩ = some (.int .i64 t2) ∧ w'.cell? ⟨w.heap.size + 1, 2, none⟩ = some (.int .i64 t3) ∧ w'.cell? ⟨w.heap.size + 1, 3, none⟩ = some (.int .i64 t4)) ∧ Below w1.heap.size w1 w') (first | (with_reducible exact holdTT (unhide Ha) (unhide Hb) hw) | (with_reducible exact holdTT (unhide Ha) (unhide Hb) (Below.refl w1.heap.size w1).drew) | (with_reducible exact holdTT (unhide Ha) (unhide Hb) (below1 w1 _).drew) | (with_reducible exact holdTT (unhide Ha) (unhide Hb) (tstepAlloc2 hw _)) | (with_reducible exact holdTT (unhide Ha) (unhide Hb) (bsetO hw (Nat.le_refl _) _ _ _ _ _)) | (with_reducible exact holdTT (unhide Ha) (unhide Hb) (bsetO hw (Below.size (by assumption)) _ _ _ _ _))) (first | (go_at_call 9; refine (toTurn_any _ _ _ _ _).mono ?_; rintro e wn ⟨rfl, hx⟩; have hw := tstepCall (w1 := w1) hx (by assumption); first | ((with_reducible have hr : ResO wn w1.heap.size := newOD hx); have hr2 := hr; obtain ⟨⟨r0, r1, r2, r3, r4⟩, f0, f1, f2, f3, f4⟩ := hr2) | ((with_reducible have hr := newO hx); have hr2 := hr; obtain ⟨⟨r0, r1, r2, r3, r4⟩, f0, f1, f2, f3, f4⟩ := hr2) | ((with_reducible have hr := keptO (by assumption) hx); have hr2 := hr; obtain ⟨⟨r0, r1, r2, r3, r4⟩, f0, f1, f2, f3, f4⟩ := hr2) | skip) | (go_at_call 18; refine (unhide cS _).mono ?_; rintro e wn ⟨rfl, hx⟩; have hw := tstepCall (w1 := w1) hx (by assumption); first | ((with_reducible have hr : ResO wn w1.heap.size := newOD hx); have hr2 := hr; obtain ⟨⟨r0, r1, r2, r3, r4⟩, f0, f1, f2, f3, f4⟩ := hr2) | ((with_reducible have hr := newO hx); have hr2 := hr; obtain ⟨⟨r0, r1, r2, r3, r4⟩, f0, f1, f2, f3, f4⟩ := hr2) | ((with_reducible have hr := keptO (by assumption) hx); have hr2 := hr; obtain ⟨⟨r0, r1, r2, r3, r4⟩, f0, f1, f2, f3, f4⟩ := hr2) | skip))
    all_goals (go_wp2_with fail; go_meet; refine ⟨_, rfl, ?_, ?_⟩)
    all_goals first | (with_reducible exact outAt_new _ _ _ _ _ _ _) | (with_reducible exact tstepAlloc2 (by assumption) _) | (with_reducible exact setO (by assumption) _ _ _ _ _) | (with_reducible exact bsetO (by assumption) (by first | exact Nat.le_refl _ | exact Below.size (by assumption)) _ _ _ _ _)
  case rest =>
  obtain ⟨b5, rfl, v5, hx⟩ := hcut
  have va := (unhide Ha).kept (World.block_lt_of_cell? _ _ (unhide Ha).1) hx
  have vb := (unhide Hb).kept (World.block_lt_of_cell? _ _ (unhide Hb).1) hx
  replace hB := below_call hB hx
  clear hx Ha Hb
  generalize wc = w2 at v5 hB va vb ⊢
  have H5 := hide v5
  clear v5
  go_wp2_with fail
  have Ha := hide va
  clear va
  have Hb := hide vb
  clear vb
  go_cut [6] (fun s wx => ∃ b, s = .pointer (some ⟨b, 0, none⟩) ∧ OutAt wx b g0 g1 g2 g3 g4 ∧ Below w2.heap.size w2 wx)
  case first =>
    go_region_held (fun w' => (w'.cell? ⟨w.heap.size, 0, none⟩ = some (.int .i64 s1) ∧ w'.cell? ⟨w.heap.size, 1, none⟩ = some (.int .i64 s2) ∧ w'.cell? ⟨w.heap.size, 2, none⟩ = some (.int .i64 s3) ∧ w'.cell? ⟨w.heap.size, 3, none⟩ = some (.int .i64 s4) ∧ w'.cell? ⟨w.heap.size + 1, 0, none⟩ = some (.int .i64 t1) ∧ w'.cell? ⟨w.heap.size + 1, 1, none⟩ = some (.int .i64 t2) ∧ w'.cell? ⟨w.heap.size + 1, 2, none⟩ = some (.int .i64 t3) ∧ w'.cell? ⟨w.heap.size + 1, 3, none⟩ = some (.int .i64 t4)) ∧ Below w2.heap.size w2 w') (first | (with_reducible exact holdTT (unhide Ha) (unhide Hb) hw) | (with_reducible exact holdTT (unhide Ha) (unhide Hb) (Below.refl w2.heap.size w2).drew) | (with_reducible exact holdTT (unhide Ha) (unhide Hb) (below1 w2 _).drew) | (with_reducible exact holdTT (unhide Ha) (unhide Hb) (tstepAlloc2 hw _)) | (with_reducible exact holdTT (unhide Ha) (unhide Hb) (bsetO hw (Nat.le_refl _) _ _ _ _ _)) | (with_reducible exact holdTT (unhide Ha) (unhide Hb) (bsetO hw (Below.size (by assumption)) _ _ _ _ _))) (first | (go_at_call 9; refine (toTurn_any _ _ _ _ _).mono ?_; rintro e wn ⟨rfl, hx⟩; have hw := tstepCall (w1 := w2) hx (by assumption); first | ((with_reducible have hr : ResO wn w2.heap.size := newOD hx); have hr2 := hr; obtain ⟨⟨r0, r1, r2, r3, r4⟩, f0, f1, f2, f3, f4⟩ := hr2) | ((with_reducible have hr := newO hx); have hr2 := hr; obtain ⟨⟨r0, r1, r2, r3, r4⟩, f0, f1, f2, f3, f4⟩ := hr2) | ((with_reducible have hr := keptO (by assumption) hx); have hr2 := hr; obtain ⟨⟨r0, r1, r2, r3, r4⟩, f0, f1, f2, f3, f4⟩ := hr2) | skip) | (go_at_call 19; refine (unhide cI _).mono ?_; rintro e wn ⟨rfl, hx⟩; have hw := tstepCall (w1 := w2) hx (by assumption); first | ((with_reducible have hr : ResO wn w2.heap.size := newOD hx); have hr2 := hr; obtain ⟨⟨r0, r1, r2, r3, r4⟩, f0, f1, f2, f3, f4⟩ := hr2) | ((with_reducible have hr := newO hx); have hr2 := hr; obtain ⟨⟨r0, r1, r2, r3, r4⟩, f0, f1, f2, f3, f4⟩ := hr2) | ((with_reducible have hr := keptO (by assumption) hx); have hr2 := hr; obtain ⟨⟨r0, r1, r2, r3, r4⟩, f0, f1, f2, f3, f4⟩ := hr2) | skip))
    all_goals (go_wp2_with fail; go_meet; refine ⟨_, rfl, ?_, ?_⟩)
    all_goals first | (with_reducible exact outAt_new _ _ _ _ _ _ _) | (with_reducible exact tstepAlloc2 (by assumption) _) | (with_reducible exact setO (by assumption) _ _ _ _ _) | (with_reducible exact bsetO (by assumption) (by first | exact Nat.le_refl _ | exact Below.size (by assumption)) _ _ _ _ _)
  case rest =>
  obtain ⟨b6, rfl, v6, hx⟩ := hcut
  have v5 := (unhide H5).kept hx
  replace hB := below_call hB hx
  clear hx H5 Ha Hb
  obtain ⟨c50, c51, c52, c53, c54⟩ := v5
  obtain ⟨c60, c61, c62, c63, c64⟩ := v6
  go_wp2_with fail
  refine (eqOut_any _ _ _ _ _ _).mono ?_
  rintro e w4 ⟨rfl, hx⟩
  replace hB := below_call hB hx
  go_wp2_with fail
  go_ret
  exact ⟨rfl, hB⟩
end Go.Proofs.Ytpjofdbeflhjnaf
