/- The law on SpotOf, walked. -/
import Derived.Test.YteelpcpkgmcmbaaSpB
import Derived.Deep.RegionHeld
import Derived.Deep.DeepCutAuto
namespace Go.Proofs.Yteelpcpkgmcmbaa
open Go.RowKit Go.Sort
set_option linter.unusedVariables false

theorem stepCallX {w1 wx wn : World} {X : Prop} (hx : Below wx.heap.size wx wn) (h : X ∧ Below w1.heap.size w1 wx) : Below w1.heap.size w1 wn := below_call h.2 hx
theorem stepAllocX {w1 wx : World} {X : Prop} (h : X ∧ Below w1.heap.size w1 wx) (o : Obj) : Below w1.heap.size w1 (wx.alloc o) := h.2.alloc h.2.size _
theorem stepAllocY {w1 wx : World} (h : Below w1.heap.size w1 wx) (o : Obj) : Below w1.heap.size w1 (wx.alloc o) := h.alloc h.size _
def ResvV3 (w : World) (b : Nat) : Prop := SAt w b [.int .i64 0, .int .i64 0, .int .i64 0] ∧ w.frozen? ⟨b, 0, none⟩ = false ∧ w.frozen? ⟨b, 1, none⟩ = false ∧ w.frozen? ⟨b, 2, none⟩ = false
theorem resV3_new (w : World) (t : TypeId) : ResvV3 (w.alloc (.cells #[.int .i64 0, .int .i64 0, .int .i64 0] t)) w.heap.size := ⟨sAt_new w [.int .i64 0, .int .i64 0, .int .i64 0] t, by simp, by simp, by simp⟩
theorem keptV3 {wx wn : World} {b : Nat} (h : ResvV3 wx b) (hx : Below wx.heap.size wx wn) : ResvV3 wn b := by
  have hl := h.1.lt
  obtain ⟨h0, f0, f1, f2⟩ := h
  exact ⟨h0.kept hx, by rw [hx.frozen (p := ⟨b, 0, none⟩) hl]; exact f0, by rw [hx.frozen (p := ⟨b, 1, none⟩) hl]; exact f1, by rw [hx.frozen (p := ⟨b, 2, none⟩) hl]; exact f2⟩
theorem newV3 {wy wn : World} {t : TypeId} (hx : Below (wy.alloc (.cells #[.int .i64 0, .int .i64 0, .int .i64 0] t)).heap.size (wy.alloc (.cells #[.int .i64 0, .int .i64 0, .int .i64 0] t)) wn) : ResvV3 wn wy.heap.size := keptV3 (resV3_new wy t) hx
theorem newDV3 {wy wn : World} {t : TypeId} (hx : Below ((wy.alloc (.cells #[.int .i64 0, .int .i64 0, .int .i64 0] t)).drew).heap.size ((wy.alloc (.cells #[.int .i64 0, .int .i64 0, .int .i64 0] t)).drew) wn) : ResvV3 wn wy.heap.size := keptV3 (show ResvV3 (wy.alloc (.cells #[.int .i64 0, .int .i64 0, .int .i64 0] t)).drew wy.heap.size from resV3_new wy t) hx
theorem setV3 {w : World} {b : Nat} (h : ResvV3 w b) (x0 x1 x2 : Value) : SAt (((w.setCell ⟨b, 0, none⟩ x0).setCell ⟨b, 1, none⟩ x1).setCell ⟨b, 2, none⟩ x2) b [x0, x1, x2] := by
  have hc : ∀ i v, [.int .i64 0, .int .i64 0, .int .i64 0][i]? = some v → w.cell? ⟨b, i, none⟩ = some v := h.1
  have c0 := hc 0 _ rfl
  have c1 := hc 1 _ rfl
  have c2 := hc 2 _ rfl
  clear hc h
  intro i v hv
  match i, hv with
  | 0, hv => simp at hv; subst hv; simp [go_sem, *]
  | 1, hv => simp at hv; subst hv; simp [go_sem, *]
  | 2, hv => simp at hv; subst hv; simp [go_sem, *]
  | i + 3, hv => simp at hv
theorem belV3 {w1 wx : World} {b : Nat} (h : Below w1.heap.size w1 wx) (hb : w1.heap.size ≤ b) (x0 x1 x2 : Value) : Below w1.heap.size w1 (((wx.setCell ⟨b, 0, none⟩ x0).setCell ⟨b, 1, none⟩ x1).setCell ⟨b, 2, none⟩ x2) := (((h.setCell hb _).setCell hb _).setCell hb _)
theorem holdBF {w1 wx : World} {A B : Nat} {a0 a1 a2 a3 a4 b0 b1 b2 : Value} (va : SAt w1 A [a0, a1, a2, a3, a4]) (vb : SAt w1 B [b0, b1, b2]) (h : Below w1.heap.size w1 wx) : (wx.cell? ⟨A, 0, none⟩ = some a0 ∧ wx.cell? ⟨A, 1, none⟩ = some a1 ∧ wx.cell? ⟨A, 2, none⟩ = some a2 ∧ wx.cell? ⟨A, 3, none⟩ = some a3 ∧ wx.cell? ⟨A, 4, none⟩ = some a4 ∧ wx.cell? ⟨B, 0, none⟩ = some b0 ∧ wx.cell? ⟨B, 1, none⟩ = some b1 ∧ wx.cell? ⟨B, 2, none⟩ = some b2) ∧ Below w1.heap.size w1 wx := by
  obtain ⟨h0, h1, h2, h3, h4⟩ := (va.kept h).c5
  obtain ⟨g0, g1, g2⟩ := (vb.kept h).c3
  exact ⟨⟨h0, h1, h2, h3, h4, g0, g1, g2⟩, h⟩
theorem spV_form (su sx sy wd ht : Int) (s : ByteArray) (fo : Int) : ∃ (x y z : Int), spV su sx sy wd ht s fo = .agg #[.int .i64 x, .int .i64 y, .int .i64 z] := ⟨_, _, _, rfl⟩
set_option maxRecDepth 100000 in
theorem eqVec_same (x y z : Int) (w : World) :
    Calls Try.prog 28 #[.agg #[.int .i64 x, .int .i64 y, .int .i64 z], .agg #[.int .i64 x, .int .i64 y, .int .i64 z]] w fun e w' => e = .returned (.bool true) ∧ Below w.heap.size w w' := by
  go_enter Try.func28, Try.ntmps28
  go_wp2
  go_ret
  exact ⟨rfl, below2 _ _ _⟩

set_option maxHeartbeats 4000000 in
set_option maxRecDepth 100000 in
theorem lawSpotOf (ar su sx sy : Int) (ed : Bool) (wd ht : Int) (f : ByteArray) (hf : f.size ≤ maxLen) (fo : Int) (w : World) :
    Calls Try.prog 8 #[.agg #[.int .i64 ar, .int .i64 su, .int .i64 sx, .int .i64 sy, .bool ed], .agg #[.int .i64 wd, .int .i64 ht, .string f], .int .i64 fo] w fun e w' => e = .returned (.bool true) ∧ Below w.heap.size w w' := by
  have cZ := hide (fun W => szFrame_any wd ht f 1048576 W hf (by omega) (by omega))
  have cB := hide (fun W => toBlob_any ar su sx sy ed W)
  have cF := hide (fun W => toFrame_any wd ht f W)
  obtain ⟨x, y, z, hv⟩ := spV_form su sx sy wd ht f fo
  have cS := hide (fun W => specSpotOf_any ar su sx sy ed wd ht f fo W)
  have cI := hide (fun W => spotOf_any ar su sx sy ed wd ht f fo W)
  rw [hv] at cS cI
  clear hv
  generalize szI 1048576 f = z1 at *
  have A0 := (sAt_new w [.int .i64 ar, .int .i64 su, .int .i64 sx, .int .i64 sy, .bool ed] 43).kept (below1 _ (.cells [.int .i64 wd, .int .i64 ht, .string f].toArray 23))
  have D0 := sAt_new (w.alloc (.cells [.int .i64 ar, .int .i64 su, .int .i64 sx, .int .i64 sy, .bool ed].toArray 43)) [.int .i64 wd, .int .i64 ht, .string f] 23
  have e1 : (w.alloc (.cells [.int .i64 ar, .int .i64 su, .int .i64 sx, .int .i64 sy, .bool ed].toArray 43)).heap.size = w.heap.size + 1 := by simp
  rw [e1] at D0
  have B0 := below2 w (.cells [.int .i64 ar, .int .i64 su, .int .i64 sx, .int .i64 sy, .bool ed].toArray 43) (.cells [.int .i64 wd, .int .i64 ht, .string f].toArray 23)
  clear e1
  go_enter Try.func8, Try.ntmps8
  go_wp2_with fail
  generalize (w.alloc (.cells #[.int .i64 ar, .int .i64 su, .int .i64 sx, .int .i64 sy, .bool ed] 43)).alloc (.cells #[.int .i64 wd, .int .i64 ht, .string f] 23) = W1 at A0 D0 B0 ⊢
  refine (unhide cZ _).mono ?_
  rintro e W3 ⟨rfl, hx⟩
  have A2 := hide (A0.kept hx)
  have D2 := hide (D0.kept hx)
  have B2 := hide (below_call B0 hx)
  clear hx A0 D0 B0
  by_cases hz : z1 < 0
  · go_wp2_with fail
    go_ret
    exact ⟨rfl, unhide B2⟩
  go_wp2_with fail
  go_cut [8] (fun sv wx => ∃ b, sv = .pointer (some ⟨b, 0, none⟩) ∧ SAt wx b [.int .i64 x, .int .i64 y, .int .i64 z] ∧ Below W3.heap.size W3 wx)
  case first =>
    go_region_held (fun w' => (w'.cell? ⟨w.heap.size, 0, none⟩ = some (.int .i64 ar) ∧ w'.cell? ⟨w.heap.size, 1, none⟩ = some (.int .i64 su) ∧ w'.cell? ⟨w.heap.size, 2, none⟩ = some (.int .i64 sx) ∧ w'.cell? ⟨w.heap.size, 3, none⟩ = some (.int .i64 sy) ∧ w'.cell? ⟨w.heap.size, 4, none⟩ = some (.bool ed) ∧ w'.cell? ⟨w.heap.size + 1, 0, none⟩ = some (.int .i64 wd) ∧ w'.cell? ⟨w.heap.size + 1, 1, none⟩ = some (.int .i64 ht) ∧ w'.cell? ⟨w.heap.size + 1, 2, none⟩ = some (.string f)) ∧ Below W3.heap.size W3 w') (first | (with_reducible exact holdBF (unhide A2) (unhide D2) (Below.refl _ _).drew) | (with_reducible exact holdBF (unhide A2) (unhide D2) (stepAllocX (by assumption) _)) | (with_reducible exact holdBF (unhide A2) (unhide D2) (by assumption)) | (with_reducible exact holdBF (unhide A2) (unhide D2) (stepAllocY (by assumption) _)) | (with_reducible exact holdBF (unhide A2) (unhide D2) (belV3 (And.right (by assumption)) (by first | exact Nat.le_refl _ | exact Below.size (by assumption)) _ _ _))) (first | (go_at_call 24; (with_reducible refine (unhide cB _).mono ?_); rintro e wn ⟨rfl, hx⟩; have hw := stepCallX (w1 := W3) hx (by assumption); first | (have hr : ResvV3 wn W3.heap.size := newDV3 hx; have hr2 := hr; obtain ⟨rc, f0, f1, f2⟩ := hr2; have r0 := rc 0 _ rfl; have r1 := rc 1 _ rfl; have r2 := rc 2 _ rfl) | (have hr := newV3 hx; have hr2 := hr; obtain ⟨rc, f0, f1, f2⟩ := hr2; have r0 := rc 0 _ rfl; have r1 := rc 1 _ rfl; have r2 := rc 2 _ rfl) | (have hr := keptV3 (by assumption) hx; have hr2 := hr; obtain ⟨rc, f0, f1, f2⟩ := hr2; have r0 := rc 0 _ rfl; have r1 := rc 1 _ rfl; have r2 := rc 2 _ rfl) | skip) | (go_at_call 11; (with_reducible refine (unhide cF _).mono ?_); rintro e wn ⟨rfl, hx⟩; have hw := stepCallX (w1 := W3) hx (by assumption); first | (have hr : ResvV3 wn W3.heap.size := newDV3 hx; have hr2 := hr; obtain ⟨rc, f0, f1, f2⟩ := hr2; have r0 := rc 0 _ rfl; have r1 := rc 1 _ rfl; have r2 := rc 2 _ rfl) | (have hr := newV3 hx; have hr2 := hr; obtain ⟨rc, f0, f1, f2⟩ := hr2; have r0 := rc 0 _ rfl; have r1 := rc 1 _ rfl; have r2 := rc 2 _ rfl) | (have hr := keptV3 (by assumption) hx; have hr2 := hr; obtain ⟨rc, f0, f1, f2⟩ := hr2; have r0 := rc 0 _ rfl; have r1 := rc 1 _ rfl; have r2 := rc 2 _ rfl) | skip) | (go_at_call 26; (with_reducible refine (unhide cS _).mono ?_); rintro e wn ⟨rfl, hx⟩; have hw := stepCallX (w1 := W3) hx (by assumption); first | (have hr : ResvV3 wn W3.heap.size := newDV3 hx; have hr2 := hr; obtain ⟨rc, f0, f1, f2⟩ := hr2; have r0 := rc 0 _ rfl; have r1 := rc 1 _ rfl; have r2 := rc 2 _ rfl) | (have hr := newV3 hx; have hr2 := hr; obtain ⟨rc, f0, f1, f2⟩ := hr2; have r0 := rc 0 _ rfl; have r1 := rc 1 _ rfl; have r2 := rc 2 _ rfl) | (have hr := keptV3 (by assumption) hx; have hr2 := hr; obtain ⟨rc, f0, f1, f2⟩ := hr2; have r0 := rc 0 _ rfl; have r1 := rc 1 _ rfl; have r2 := rc 2 _ rfl) | skip))
    all_goals (go_wp2_with fail; go_meet; refine ⟨_, rfl, ?_, ?_⟩)
    all_goals first | (with_reducible exact sAt_new _ [.int .i64 x, .int .i64 y, .int .i64 z] _) | (with_reducible exact stepAllocY (by assumption) _) | (with_reducible exact setV3 (by assumption) _ _ _) | (with_reducible exact belV3 (by assumption) (by first | exact Nat.le_refl _ | exact Below.size (by assumption)) _ _ _) | (with_reducible exact belV3 (And.right (by assumption)) (by first | exact Nat.le_refl _ | exact Below.size (by assumption)) _ _ _) | trace_state
  case rest =>
  obtain ⟨b8, rfl, v8, hx⟩ := hcut
  have A3 := hide ((unhide A2).kept hx)
  have D3 := hide ((unhide D2).kept hx)
  have B3 := hide (below_call (unhide B2) hx)
  have V8 := hide v8
  clear hx v8 A2 D2 B2
  generalize wc = W4 at A3 D3 B3 V8 ⊢
  go_wp2_with fail
  go_cut [9] (fun sv wx => ∃ b, sv = .pointer (some ⟨b, 0, none⟩) ∧ SAt wx b [.int .i64 x, .int .i64 y, .int .i64 z] ∧ Below W4.heap.size W4 wx)
  case first =>
    go_region_held (fun w' => (w'.cell? ⟨w.heap.size, 0, none⟩ = some (.int .i64 ar) ∧ w'.cell? ⟨w.heap.size, 1, none⟩ = some (.int .i64 su) ∧ w'.cell? ⟨w.heap.size, 2, none⟩ = some (.int .i64 sx) ∧ w'.cell? ⟨w.heap.size, 3, none⟩ = some (.int .i64 sy) ∧ w'.cell? ⟨w.heap.size, 4, none⟩ = some (.bool ed) ∧ w'.cell? ⟨w.heap.size + 1, 0, none⟩ = some (.int .i64 wd) ∧ w'.cell? ⟨w.heap.size + 1, 1, none⟩ = some (.int .i64 ht) ∧ w'.cell? ⟨w.heap.size + 1, 2, none⟩ = some (.string f)) ∧ Below W4.heap.size W4 w') (first | (with_reducible exact holdBF (unhide A3) (unhide D3) (Below.refl _ _).drew) | (with_reducible exact holdBF (unhide A3) (unhide D3) (stepAllocX (by assumption) _)) | (with_reducible exact holdBF (unhide A3) (unhide D3) (by assumption)) | (with_reducible exact holdBF (unhide A3) (unhide D3) (stepAllocY (by assumption) _)) | (with_reducible exact holdBF (unhide A3) (unhide D3) (belV3 (And.right (by assumption)) (by first | exact Nat.le_refl _ | exact Below.size (by assumption)) _ _ _))) (first | (go_at_call 24; (with_reducible refine (unhide cB _).mono ?_); rintro e wn ⟨rfl, hx⟩; have hw := stepCallX (w1 := W4) hx (by assumption); first | (have hr : ResvV3 wn W4.heap.size := newDV3 hx; have hr2 := hr; obtain ⟨rc, f0, f1, f2⟩ := hr2; have r0 := rc 0 _ rfl; have r1 := rc 1 _ rfl; have r2 := rc 2 _ rfl) | (have hr := newV3 hx; have hr2 := hr; obtain ⟨rc, f0, f1, f2⟩ := hr2; have r0 := rc 0 _ rfl; have r1 := rc 1 _ rfl; have r2 := rc 2 _ rfl) | (have hr := keptV3 (by assumption) hx; have hr2 := hr; obtain ⟨rc, f0, f1, f2⟩ := hr2; have r0 := rc 0 _ rfl; have r1 := rc 1 _ rfl; have r2 := rc 2 _ rfl) | skip) | (go_at_call 11; (with_reducible refine (unhide cF _).mono ?_); rintro e wn ⟨rfl, hx⟩; have hw := stepCallX (w1 := W4) hx (by assumption); first | (have hr : ResvV3 wn W4.heap.size := newDV3 hx; have hr2 := hr; obtain ⟨rc, f0, f1, f2⟩ := hr2; have r0 := rc 0 _ rfl; have r1 := rc 1 _ rfl; have r2 := rc 2 _ rfl) | (have hr := newV3 hx; have hr2 := hr; obtain ⟨rc, f0, f1, f2⟩ := hr2; have r0 := rc 0 _ rfl; have r1 := rc 1 _ rfl; have r2 := rc 2 _ rfl) | (have hr := keptV3 (by assumption) hx; have hr2 := hr; obtain ⟨rc, f0, f1, f2⟩ := hr2; have r0 := rc 0 _ rfl; have r1 := rc 1 _ rfl; have r2 := rc 2 _ rfl) | skip) | (go_at_call 27; (with_reducible refine (unhide cI _).mono ?_); rintro e wn ⟨rfl, hx⟩; have hw := stepCallX (w1 := W4) hx (by assumption); first | (have hr : ResvV3 wn W4.heap.size := newDV3 hx; have hr2 := hr; obtain ⟨rc, f0, f1, f2⟩ := hr2; have r0 := rc 0 _ rfl; have r1 := rc 1 _ rfl; have r2 := rc 2 _ rfl) | (have hr := newV3 hx; have hr2 := hr; obtain ⟨rc, f0, f1, f2⟩ := hr2; have r0 := rc 0 _ rfl; have r1 := rc 1 _ rfl; have r2 := rc 2 _ rfl) | (have hr := keptV3 (by assumption) hx; have hr2 := hr; obtain ⟨rc, f0, f1, f2⟩ := hr2; have r0 := rc 0 _ rfl; have r1 := rc 1 _ rfl; have r2 := rc 2 _ rfl) | skip))
    all_goals (go_wp2_with fail; go_meet; refine ⟨_, rfl, ?_, ?_⟩)
    all_goals first | (with_reducible exact sAt_new _ [.int .i64 x, .int .i64 y, .int .i64 z] _) | (with_reducible exact stepAllocY (by assumption) _) | (with_reducible exact setV3 (by assumption) _ _ _) | (with_reducible exact belV3 (by assumption) (by first | exact Nat.le_refl _ | exact Below.size (by assumption)) _ _ _) | (with_reducible exact belV3 (And.right (by assumption)) (by first | exact Nat.le_refl _ | exact Below.size (by assumption)) _ _ _) | trace_state
  case rest =>
  obtain ⟨b9, rfl, v9, hx⟩ := hcut
  have B4 := hide (below_call (unhide B3) hx)
  obtain ⟨c0, c1, c2⟩ := ((unhide V8).kept hx).c3
  obtain ⟨d0, d1, d2⟩ := v9.c3
  clear hx v9 A3 D3 B3 V8
  go_wp2_with fail
  refine (eqVec_same x y z _).mono ?_
  rintro e W6 ⟨rfl, hx⟩
  have B5 := below_call (unhide B4) hx
  clear hx
  go_wp2_with fail
  go_ret
  exact ⟨rfl, B5⟩
end Go.Proofs.Yteelpcpkgmcmbaa
