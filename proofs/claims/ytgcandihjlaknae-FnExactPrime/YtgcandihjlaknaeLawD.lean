/- The law on Cross, walked; what a place made in the midst of a statement holds. -/
import Derived.Test.YtgcandihjlaknaeLawB
import Derived.Test.YtgcandihjlaknaeVecG
import Derived.Deep.RegionHeld
import Derived.Deep.DeepCutAuto
namespace Go.Proofs.Ytgcandihjlaknae
open Go.RowKit Go.Sort
set_option linter.unusedVariables false

theorem stepCall {w1 wx wn : World} {X : Prop} (hx : Below wx.heap.size wx wn) (h : X ∧ Below w1.heap.size w1 wx) : Below w1.heap.size w1 wn := below_call h.2 hx
def Resv (w : World) (b : Nat) : Prop := VecAt w b 0 0 0 ∧ FreeAt w b
theorem newVec {wy wn : World} {t : TypeId} (hx : Below (wy.alloc (.cells #[.int .i64 0, .int .i64 0, .int .i64 0] t)).heap.size (wy.alloc (.cells #[.int .i64 0, .int .i64 0, .int .i64 0] t)) wn) : Resv wn wy.heap.size :=
  ⟨(vecAt_new wy 0 0 0 t).kept (by simp) hx, (freeAt_new wy 0 0 0 t).kept (by simp) hx⟩
theorem newVecD {wy wn : World} {t : TypeId} (hx : Below ((wy.alloc (.cells #[.int .i64 0, .int .i64 0, .int .i64 0] t)).drew).heap.size ((wy.alloc (.cells #[.int .i64 0, .int .i64 0, .int .i64 0] t)).drew) wn) : Resv wn wy.heap.size :=
  ⟨(show VecAt (wy.alloc (.cells #[.int .i64 0, .int .i64 0, .int .i64 0] t)).drew wy.heap.size 0 0 0 from vecAt_new wy 0 0 0 t).kept (by simp) hx, (show FreeAt (wy.alloc (.cells #[.int .i64 0, .int .i64 0, .int .i64 0] t)).drew wy.heap.size from freeAt_new wy 0 0 0 t).kept (by simp) hx⟩
theorem keptVec {wx wn : World} {b : Nat} (h : Resv wx b) (hx : Below wx.heap.size wx wn) : Resv wn b := ⟨h.1.kept (VecAt.lt h.1) hx, h.2.kept (VecAt.lt h.1) hx⟩
theorem stepAlloc2 {w1 wx : World} (h : Below w1.heap.size w1 wx) (o : Obj) : Below w1.heap.size w1 (wx.alloc o) := h.alloc h.size _
theorem vecAt_set3 {w : World} {b : Nat} (h : Resv w b) (x y z : Int) : VecAt (((w.setCell ⟨b, 0, none⟩ (.int .i64 x)).setCell ⟨b, 1, none⟩ (.int .i64 y)).setCell ⟨b, 2, none⟩ (.int .i64 z)) b x y z := by
  obtain ⟨⟨h0, h1, h2⟩, _⟩ := h
  refine ⟨?_, ?_, ?_⟩ <;> simp [go_sem, h0, h1, h2]
theorem below_set3' {w1 wx : World} {b : Nat} (h : Below w1.heap.size w1 wx) (hb : w1.heap.size ≤ b) (x y z : Value) : Below w1.heap.size w1 (((wx.setCell ⟨b, 0, none⟩ x).setCell ⟨b, 1, none⟩ y).setCell ⟨b, 2, none⟩ z) := ((h.setCell hb _).setCell hb _).setCell hb _
theorem stepAlloc {w1 wx : World} {X : Prop} (h : X ∧ Below w1.heap.size w1 wx) (o : Obj) : Below w1.heap.size w1 (wx.alloc o) := h.2.alloc h.2.size _
theorem stepSet3 {w1 wx : World} {X : Prop} {b : Nat} (h : X ∧ Below w1.heap.size w1 wx) (hb : w1.heap.size ≤ b) (x y z : Value) : Below w1.heap.size w1 (((wx.setCell ⟨b, 0, none⟩ x).setCell ⟨b, 1, none⟩ y).setCell ⟨b, 2, none⟩ z) := ((h.2.setCell hb _).setCell hb _).setCell hb _

theorem hold1 {w1 wx : World} {A : Nat} {a1 a2 a3 : Int} (va : VecAt w1 A a1 a2 a3) (h : Below w1.heap.size w1 wx) : ((wx.cell? ⟨A, 0, none⟩ = some (.int .i64 a1) ∧ wx.cell? ⟨A, 1, none⟩ = some (.int .i64 a2) ∧ wx.cell? ⟨A, 2, none⟩ = some (.int .i64 a3)) ∧ Below w1.heap.size w1 wx) := by
  have ka := va.kept (VecAt.lt va) h
  exact ⟨⟨ka.1, ka.2.1, ka.2.2⟩, h⟩
theorem hold2 {w1 wx : World} {A B : Nat} {a1 a2 a3 b1 b2 b3 : Int} (va : VecAt w1 A a1 a2 a3) (vb : VecAt w1 B b1 b2 b3) (h : Below w1.heap.size w1 wx) : ((wx.cell? ⟨A, 0, none⟩ = some (.int .i64 a1) ∧ wx.cell? ⟨A, 1, none⟩ = some (.int .i64 a2) ∧ wx.cell? ⟨A, 2, none⟩ = some (.int .i64 a3) ∧ wx.cell? ⟨B, 0, none⟩ = some (.int .i64 b1) ∧ wx.cell? ⟨B, 1, none⟩ = some (.int .i64 b2) ∧ wx.cell? ⟨B, 2, none⟩ = some (.int .i64 b3)) ∧ Below w1.heap.size w1 wx) := by
  have ka := va.kept (VecAt.lt va) h
  have kb := vb.kept (VecAt.lt vb) h
  exact ⟨⟨ka.1, ka.2.1, ka.2.2, kb.1, kb.2.1, kb.2.2⟩, h⟩
set_option maxHeartbeats 1000000 in
set_option maxRecDepth 100000 in
theorem lawCross (a1 a2 a3 b1 b2 b3 : Int) (w : World) :
    Calls Try.prog 4 #[.agg #[.int .i64 a1, .int .i64 a2, .int .i64 a3], .agg #[.int .i64 b1, .int .i64 b2, .int .i64 b3]] w fun e w' => e = .returned (.bool true) ∧ Below w.heap.size w w' := by
  go_enter Try.func4, Try.ntmps4
  go_wp2_with fail
  have va : VecAt ((w.alloc (.cells #[.int .i64 a1, .int .i64 a2, .int .i64 a3] 23)).alloc (.cells #[.int .i64 b1, .int .i64 b2, .int .i64 b3] 23)) w.heap.size a1 a2 a3 := ((by simpa using vecAt_new w a1 a2 a3 23 : VecAt (w.alloc (.cells #[.int .i64 a1, .int .i64 a2, .int .i64 a3] 23)) w.heap.size a1 a2 a3).alloc (by simp <;> omega) _)
  have vb : VecAt ((w.alloc (.cells #[.int .i64 a1, .int .i64 a2, .int .i64 a3] 23)).alloc (.cells #[.int .i64 b1, .int .i64 b2, .int .i64 b3] 23)) (w.heap.size + 1) b1 b2 b3 := (by simpa using vecAt_new (w.alloc (.cells #[.int .i64 a1, .int .i64 a2, .int .i64 a3] 23)) b1 b2 b3 23 : VecAt ((w.alloc (.cells #[.int .i64 a1, .int .i64 a2, .int .i64 a3] 23)).alloc (.cells #[.int .i64 b1, .int .i64 b2, .int .i64 b3] 23)) (w.heap.size + 1) b1 b2 b3)
  have hB : Below w.heap.size w ((w.alloc (.cells #[.int .i64 a1, .int .i64 a2, .int .i64 a3] 23)).alloc (.cells #[.int .i64 b1, .int .i64 b2, .int .i64 b3] 23)) := below2 _ _ _
  generalize ((w.alloc (.cells #[.int .i64 a1, .int .i64 a2, .int .i64 a3] 23)).alloc (.cells #[.int .i64 b1, .int .i64 b2, .int .i64 b3] 23)) = w1 at va vb hB ⊢
  have Ha := hide va
  clear va
  have Hb := hide vb
  clear vb
  go_cut [5] (fun s wx => ∃ b, s = .pointer (some ⟨b, 0, none⟩) ∧ VecAt wx b (crI (rightB a1 a2 a3 && rightB b1 b2 b3) a2 a3 b2 b3) (crI (rightB a1 a2 a3 && rightB b1 b2 b3) a3 a1 b3 b1) (crI (rightB a1 a2 a3 && rightB b1 b2 b3) a1 a2 b1 b2) ∧ Below w1.heap.size w1 wx)
  case first =>
    go_region_held (fun w' => (w'.cell? ⟨w.heap.size, 0, none⟩ = some (.int .i64 a1) ∧ w'.cell? ⟨w.heap.size, 1, none⟩ = some (.int .i64 a2) ∧ w'.cell? ⟨w.heap.size, 2, none⟩ = some (.int .i64 a3) ∧ w'.cell? ⟨w.heap.size + 1, 0, none⟩ = some (.int .i64 b1) ∧ w'.cell? ⟨w.heap.size + 1, 1, none⟩ = some (.int .i64 b2) ∧ w'.cell? ⟨w.heap.size + 1, 2, none⟩ = some (.int .i64 b3)) ∧ Below w1.heap.size w1 w') (first | exact hold2 (unhide Ha) (unhide Hb) (Below.refl _ _).drew | exact hold2 (unhide Ha) (unhide Hb) (stepAlloc (by assumption) _) | exact hold2 (unhide Ha) (unhide Hb) (by assumption) | exact hold2 (unhide Ha) (unhide Hb) (stepAlloc2 (by assumption) _) | exact hold2 (unhide Ha) (unhide Hb) (stepSet3 (by assumption) (by first | exact Nat.le_refl _ | exact Below.size (by assumption)) _ _ _)) (first | (go_at_call 10; refine (toVec_any _ _ _ _).mono ?_; rintro e wn ⟨rfl, hx⟩; have hw := stepCall (w1 := w1) hx (by assumption); first | (have hr : Resv wn w1.heap.size := newVecD hx; have hr2 := hr; obtain ⟨⟨r0, r1, r2⟩, f0, f1, f2⟩ := hr2) | (have hr := newVec hx; have hr2 := hr; obtain ⟨⟨r0, r1, r2⟩, f0, f1, f2⟩ := hr2) | (have hr := keptVec (by assumption) hx; have hr2 := hr; obtain ⟨⟨r0, r1, r2⟩, f0, f1, f2⟩ := hr2) | skip) | (go_at_call 12; refine (specCross_any a1 a2 a3 b1 b2 b3 _).mono ?_; rintro e wn ⟨rfl, hx⟩; have hw := stepCall (w1 := w1) hx (by assumption); first | (have hr : Resv wn w1.heap.size := newVecD hx; have hr2 := hr; obtain ⟨⟨r0, r1, r2⟩, f0, f1, f2⟩ := hr2) | (have hr := newVec hx; have hr2 := hr; obtain ⟨⟨r0, r1, r2⟩, f0, f1, f2⟩ := hr2) | (have hr := keptVec (by assumption) hx; have hr2 := hr; obtain ⟨⟨r0, r1, r2⟩, f0, f1, f2⟩ := hr2) | skip))
    all_goals (go_wp2_with fail; go_meet; refine ⟨_, rfl, ?_, ?_⟩)
    all_goals first | (with_reducible exact vecAt_new _ _ _ _ _) | (with_reducible exact stepAlloc2 (by assumption) _) | (with_reducible exact vecAt_set3 (by assumption) _ _ _) | (with_reducible exact below_set3' (by assumption) (by first | exact Nat.le_refl _ | exact Below.size (by assumption)) _ _ _) | trace_state
  case rest =>
  obtain ⟨b5, rfl, v5, hx⟩ := hcut
  have va := (unhide Ha).kept (VecAt.lt (unhide Ha)) hx
  have vb := (unhide Hb).kept (VecAt.lt (unhide Hb)) hx
  replace hB := below_call hB hx
  clear hx Ha Hb
  generalize wc = w2 at v5 hB va vb ⊢
  have H5 := hide v5
  clear v5
  go_wp2_with fail
  have Ha := hide va
  clear va
  have Hb := hide vb
  clear vb
  go_cut [6] (fun s wx => ∃ b, s = .pointer (some ⟨b, 0, none⟩) ∧ VecAt wx b (crI (rightB a1 a2 a3 && rightB b1 b2 b3) a2 a3 b2 b3) (crI (rightB a1 a2 a3 && rightB b1 b2 b3) a3 a1 b3 b1) (crI (rightB a1 a2 a3 && rightB b1 b2 b3) a1 a2 b1 b2) ∧ Below w2.heap.size w2 wx)
  case first =>
    go_region_held (fun w' => (w'.cell? ⟨w.heap.size, 0, none⟩ = some (.int .i64 a1) ∧ w'.cell? ⟨w.heap.size, 1, none⟩ = some (.int .i64 a2) ∧ w'.cell? ⟨w.heap.size, 2, none⟩ = some (.int .i64 a3) ∧ w'.cell? ⟨w.heap.size + 1, 0, none⟩ = some (.int .i64 b1) ∧ w'.cell? ⟨w.heap.size + 1, 1, none⟩ = some (.int .i64 b2) ∧ w'.cell? ⟨w.heap.size + 1, 2, none⟩ = some (.int .i64 b3)) ∧ Below w2.heap.size w2 w') (first | exact hold2 (unhide Ha) (unhide Hb) (Below.refl _ _).drew | exact hold2 (unhide Ha) (unhide Hb) (stepAlloc (by assumption) _) | exact hold2 (unhide Ha) (unhide Hb) (by assumption) | exact hold2 (unhide Ha) (unhide Hb) (stepAlloc2 (by assumption) _) | exact hold2 (unhide Ha) (unhide Hb) (stepSet3 (by assumption) (by first | exact Nat.le_refl _ | exact Below.size (by assumption)) _ _ _)) (first | (go_at_call 10; refine (toVec_any _ _ _ _).mono ?_; rintro e wn ⟨rfl, hx⟩; have hw := stepCall (w1 := w2) hx (by assumption); first | (have hr : Resv wn w2.heap.size := newVecD hx; have hr2 := hr; obtain ⟨⟨r0, r1, r2⟩, f0, f1, f2⟩ := hr2) | (have hr := newVec hx; have hr2 := hr; obtain ⟨⟨r0, r1, r2⟩, f0, f1, f2⟩ := hr2) | (have hr := keptVec (by assumption) hx; have hr2 := hr; obtain ⟨⟨r0, r1, r2⟩, f0, f1, f2⟩ := hr2) | skip) | (go_at_call 13; refine (cross_any a1 a2 a3 b1 b2 b3 _).mono ?_; rintro e wn ⟨rfl, hx⟩; have hw := stepCall (w1 := w2) hx (by assumption); first | (have hr : Resv wn w2.heap.size := newVecD hx; have hr2 := hr; obtain ⟨⟨r0, r1, r2⟩, f0, f1, f2⟩ := hr2) | (have hr := newVec hx; have hr2 := hr; obtain ⟨⟨r0, r1, r2⟩, f0, f1, f2⟩ := hr2) | (have hr := keptVec (by assumption) hx; have hr2 := hr; obtain ⟨⟨r0, r1, r2⟩, f0, f1, f2⟩ := hr2) | skip))
    all_goals (go_wp2_with fail; go_meet; refine ⟨_, rfl, ?_, ?_⟩)
    all_goals first | (with_reducible exact vecAt_new _ _ _ _ _) | (with_reducible exact stepAlloc2 (by assumption) _) | (with_reducible exact vecAt_set3 (by assumption) _ _ _) | (with_reducible exact below_set3' (by assumption) (by first | exact Nat.le_refl _ | exact Below.size (by assumption)) _ _ _) | trace_state
  case rest =>
  obtain ⟨b6, rfl, v6, hx⟩ := hcut
  have v5 := (unhide H5).kept (VecAt.lt (unhide H5)) hx
  replace hB := below_call hB hx
  clear hx H5 Ha Hb
  obtain ⟨c50, c51, c52⟩ := v5
  obtain ⟨c60, c61, c62⟩ := v6
  go_wp2_with fail
  refine (eqVec_any _ _ _ _).mono ?_
  rintro e w4 ⟨rfl, hx⟩
  replace hB := below_call hB hx
  go_wp2_with fail
  go_ret
  exact ⟨rfl, hB⟩
end Go.Proofs.Ytgcandihjlaknae
