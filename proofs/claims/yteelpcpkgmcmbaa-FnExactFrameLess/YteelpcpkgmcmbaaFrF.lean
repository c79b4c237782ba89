/- The law on FrameLess, walked. -/
import Derived.Test.YteelpcpkgmcmbaaFrE
import Derived.Deep.RegionHeld
import Derived.Deep.DeepCutAuto
namespace Go.Proofs.Yteelpcpkgmcmbaa
open Go.RowKit Go.Sort
set_option linter.unusedVariables false

theorem stepCallX {w1 wx wn : World} {X : Prop} (hx : Below wx.heap.size wx wn) (h : X ∧ Below w1.heap.size w1 wx) : Below w1.heap.size w1 wn := below_call h.2 hx
theorem stepAllocX {w1 wx : World} {X : Prop} (h : X ∧ Below w1.heap.size w1 wx) (o : Obj) : Below w1.heap.size w1 (wx.alloc o) := h.2.alloc h.2.size _
theorem stepAllocY {w1 wx : World} (h : Below w1.heap.size w1 wx) (o : Obj) : Below w1.heap.size w1 (wx.alloc o) := h.alloc h.size _
def ResvFO (w : World) (b : Nat) : Prop := SAt w b [.int .i64 0, .int .i64 0, .string ⟨#[]⟩, .int .i64 0] ∧ w.frozen? ⟨b, 0, none⟩ = false ∧ w.frozen? ⟨b, 1, none⟩ = false ∧ w.frozen? ⟨b, 2, none⟩ = false ∧ w.frozen? ⟨b, 3, none⟩ = false
theorem resFO_new (w : World) (t : TypeId) : ResvFO (w.alloc (.cells #[.int .i64 0, .int .i64 0, .string ⟨#[]⟩, .int .i64 0] t)) w.heap.size := ⟨sAt_new w [.int .i64 0, .int .i64 0, .string ⟨#[]⟩, .int .i64 0] t, by simp, by simp, by simp, by simp⟩
theorem keptFO {wx wn : World} {b : Nat} (h : ResvFO wx b) (hx : Below wx.heap.size wx wn) : ResvFO wn b := by
  have hl := h.1.lt
  obtain ⟨h0, f0, f1, f2, f3⟩ := h
  exact ⟨h0.kept hx, by rw [hx.frozen (p := ⟨b, 0, none⟩) hl]; exact f0, by rw [hx.frozen (p := ⟨b, 1, none⟩) hl]; exact f1, by rw [hx.frozen (p := ⟨b, 2, none⟩) hl]; exact f2, by rw [hx.frozen (p := ⟨b, 3, none⟩) hl]; exact f3⟩
theorem newFO {wy wn : World} {t : TypeId} (hx : Below (wy.alloc (.cells #[.int .i64 0, .int .i64 0, .string ⟨#[]⟩, .int .i64 0] t)).heap.size (wy.alloc (.cells #[.int .i64 0, .int .i64 0, .string ⟨#[]⟩, .int .i64 0] t)) wn) : ResvFO wn wy.heap.size := keptFO (resFO_new wy t) hx
theorem newDFO {wy wn : World} {t : TypeId} (hx : Below ((wy.alloc (.cells #[.int .i64 0, .int .i64 0, .string ⟨#[]⟩, .int .i64 0] t)).drew).heap.size ((wy.alloc (.cells #[.int .i64 0, .int .i64 0, .string ⟨#[]⟩, .int .i64 0] t)).drew) wn) : ResvFO wn wy.heap.size := keptFO (show ResvFO (wy.alloc (.cells #[.int .i64 0, .int .i64 0, .string ⟨#[]⟩, .int .i64 0] t)).drew wy.heap.size from resFO_new wy t) hx
theorem setFO {w : World} {b : Nat} (h : ResvFO w b) (x0 x1 x2 x3 : Value) : SAt ((((w.setCell ⟨b, 0, none⟩ x0).setCell ⟨b, 1, none⟩ x1).setCell ⟨b, 2, none⟩ x2).setCell ⟨b, 3, none⟩ x3) b [x0, x1, x2, x3] := by
  have hc : ∀ i v, [.int .i64 0, .int .i64 0, .string ⟨#[]⟩, .int .i64 0][i]? = some v → w.cell? ⟨b, i, none⟩ = some v := h.1
  have c0 := hc 0 _ rfl
  have c1 := hc 1 _ rfl
  have c2 := hc 2 _ rfl
  have c3 := hc 3 _ rfl
  clear hc h
  intro i v hv
  match i, hv with
  | 0, hv => simp at hv; subst hv; simp [go_sem, *]
  | 1, hv => simp at hv; subst hv; simp [go_sem, *]
  | 2, hv => simp at hv; subst hv; simp [go_sem, *]
  | 3, hv => simp at hv; subst hv; simp [go_sem, *]
  | i + 4, hv => simp at hv
theorem belFO {w1 wx : World} {b : Nat} (h : Below w1.heap.size w1 wx) (hb : w1.heap.size ≤ b) (x0 x1 x2 x3 : Value) : Below w1.heap.size w1 ((((wx.setCell ⟨b, 0, none⟩ x0).setCell ⟨b, 1, none⟩ x1).setCell ⟨b, 2, none⟩ x2).setCell ⟨b, 3, none⟩ x3) := ((((h.setCell hb _).setCell hb _).setCell hb _).setCell hb _)
theorem holdFF {w1 wx : World} {A B : Nat} {a0 a1 a2 b0 b1 b2 : Value} (va : SAt w1 A [a0, a1, a2]) (vb : SAt w1 B [b0, b1, b2]) (h : Below w1.heap.size w1 wx) : (wx.cell? ⟨A, 0, none⟩ = some a0 ∧ wx.cell? ⟨A, 1, none⟩ = some a1 ∧ wx.cell? ⟨A, 2, none⟩ = some a2 ∧ wx.cell? ⟨B, 0, none⟩ = some b0 ∧ wx.cell? ⟨B, 1, none⟩ = some b1 ∧ wx.cell? ⟨B, 2, none⟩ = some b2) ∧ Below w1.heap.size w1 wx := by
  obtain ⟨h0, h1, h2⟩ := (va.kept h).c3
  obtain ⟨g0, g1, g2⟩ := (vb.kept h).c3
  exact ⟨⟨h0, h1, h2, g0, g1, g2⟩, h⟩
theorem lessV_form (w1 h1 : Int) (f : ByteArray) (w2 h2 : Int) (d : ByteArray) : ∃ (x y z : Int) (s : ByteArray), lessV w1 h1 f w2 h2 d = .agg #[.int .i64 x, .int .i64 y, .string s, .int .i64 z] := by
  unfold lessV
  split
  · exact ⟨_, _, _, _, rfl⟩
  · exact ⟨_, _, _, _, rfl⟩
theorem SAt.c4 {w : World} {b : Nat} {x y z u : Value} (h : SAt w b [x, y, z, u]) : w.cell? ⟨b, 0, none⟩ = some x ∧ w.cell? ⟨b, 1, none⟩ = some y ∧ w.cell? ⟨b, 2, none⟩ = some z ∧ w.cell? ⟨b, 3, none⟩ = some u := ⟨h 0 x rfl, h 1 y rfl, h 2 z rfl, h 3 u rfl⟩
theorem neq_str_self (s : ByteArray) (w : World) : (binOp .neq 9 (.string s) (.string s)).run Try.prog w = .ok (.bool false) w := by simp [go_sem]
set_option maxRecDepth 100000 in
theorem eqFrame_same (x y : Int) (s : ByteArray) (w : World) :
    Calls Try.prog 30 #[.agg #[.int .i64 x, .int .i64 y, .string s], .agg #[.int .i64 x, .int .i64 y, .string s]] w fun e w' => e = .returned (.bool true) ∧ Below w.heap.size w w' := by
  have hq := neq_str_self s
  go_enter Try.func30, Try.ntmps30
  go_wp2_with fail
  go_ret
  exact ⟨rfl, below2 _ _ _⟩
set_option maxRecDepth 100000 in
theorem eqFrameOut_same (x y z : Int) (s : ByteArray) (w : World) :
    Calls Try.prog 15 #[.agg #[.int .i64 x, .int .i64 y, .string s, .int .i64 z], .agg #[.int .i64 x, .int .i64 y, .string s, .int .i64 z]] w fun e w' => e = .returned (.bool true) ∧ Below w.heap.size w w' := by
  have A0 := (sAt_new w [.int .i64 x, .int .i64 y, .string s, .int .i64 z] 30).kept (below1 _ (.cells [.int .i64 x, .int .i64 y, .string s, .int .i64 z].toArray 30))
  have A1 := sAt_new (w.alloc (.cells [.int .i64 x, .int .i64 y, .string s, .int .i64 z].toArray 30)) [.int .i64 x, .int .i64 y, .string s, .int .i64 z] 30
  have e1 : (w.alloc (.cells [.int .i64 x, .int .i64 y, .string s, .int .i64 z].toArray 30)).heap.size = w.heap.size + 1 := by simp
  rw [e1] at A1
  have B0 := below2 w (.cells [.int .i64 x, .int .i64 y, .string s, .int .i64 z].toArray 30) (.cells [.int .i64 x, .int .i64 y, .string s, .int .i64 z].toArray 30)
  clear e1
  go_enter Try.func15, Try.ntmps15
  go_wp2_with fail
  refine (eqFrame_same x y s _).mono ?_
  rintro e w1 ⟨rfl, hx⟩
  obtain ⟨a0, a1, a2, a3⟩ := (A0.kept hx).c4
  obtain ⟨b0, b1, b2, b3⟩ := (A1.kept hx).c4
  have B1 := below_call B0 hx
  clear hx A0 A1 B0
  go_wp2_with fail
  go_ret
  exact ⟨rfl, B1⟩

set_option maxHeartbeats 4000000 in
set_option maxRecDepth 100000 in
theorem lawFrameLess (w1 h1 : Int) (f : ByteArray) (hf : f.size ≤ maxLen) (w2 h2 : Int) (d : ByteArray) (hd : d.size ≤ maxLen) (w : World) :
    Calls Try.prog 4 #[.agg #[.int .i64 w1, .int .i64 h1, .string f], .agg #[.int .i64 w2, .int .i64 h2, .string d]] w fun e w' => e = .returned (.bool true) ∧ Below w.heap.size w w' := by
  have cZ := hide (fun W => szFrame_any w1 h1 f 1048576 W hf (by omega) (by omega))
  have hz1 : szI 1048576 f ≤ 1048576 := by unfold szI; split <;> omega
  have cZ2 : Hid (0 ≤ szI 1048576 f → ∀ W : World, Calls Try.prog 9 #[.agg #[.int .i64 w2, .int .i64 h2, .string d], .int .i64 (szI 1048576 f)] W fun e w' => e = .returned (.int .i64 (szI (szI 1048576 f) d)) ∧ Below W.heap.size W w') := hide (fun h W => szFrame_any w2 h2 d (szI 1048576 f) W hd h hz1)
  have cF := hide (fun W => toFrame_any w1 h1 f W)
  have cD := hide (fun W => toFrame_any w2 h2 d W)
  obtain ⟨x, y, z, s, hv⟩ := lessV_form w1 h1 f w2 h2 d
  have cS := hide (fun W => specFrameLess_any w1 h1 f w2 h2 d W)
  have cI := hide (fun W => frameLess_any w1 h1 f w2 h2 d W)
  rw [hv] at cS cI
  clear hv hz1
  generalize szI (szI 1048576 f) d = z2 at *
  generalize szI 1048576 f = z1 at *
  have A0 := (sAt_new w [.int .i64 w1, .int .i64 h1, .string f] 23).kept (below1 _ (.cells [.int .i64 w2, .int .i64 h2, .string d].toArray 23))
  have D0 := sAt_new (w.alloc (.cells [.int .i64 w1, .int .i64 h1, .string f].toArray 23)) [.int .i64 w2, .int .i64 h2, .string d] 23
  have e1 : (w.alloc (.cells [.int .i64 w1, .int .i64 h1, .string f].toArray 23)).heap.size = w.heap.size + 1 := by simp
  rw [e1] at D0
  have B0 := below2 w (.cells [.int .i64 w1, .int .i64 h1, .string f].toArray 23) (.cells [.int .i64 w2, .int .i64 h2, .string d].toArray 23)
  clear e1
  go_enter Try.func4, Try.ntmps4
  go_wp2_with fail
  generalize (w.alloc (.cells #[.int .i64 w1, .int .i64 h1, .string f] 23)).alloc (.cells #[.int .i64 w2, .int .i64 h2, .string d] 23) = W1 at A0 D0 B0 ⊢
  refine (unhide cZ _).mono ?_
  rintro e W2 ⟨rfl, hx⟩
  have A1 := A0.kept hx
  have D1 := D0.kept hx
  have B1 := below_call B0 hx
  clear hx A0 D0 B0
  by_cases hz : z1 < 0
  · go_wp2_with fail
    go_ret
    exact ⟨rfl, B1⟩
  obtain ⟨d0, d1, d2⟩ := D1.c3
  go_wp2_with fail
  refine (unhide cZ2 (by omega) _).mono ?_
  rintro e W3 ⟨rfl, hx⟩
  have A2 := hide (A1.kept hx)
  have D2 := hide (D1.kept hx)
  have B2 := hide (below_call B1 hx)
  clear hx A1 D1 B1 d0 d1 d2
  by_cases hz2 : z2 < 0
  · go_wp2_with fail
    go_ret
    exact ⟨rfl, unhide B2⟩
  go_wp2_with fail
  go_cut [6] (fun sv wx => ∃ b, sv = .pointer (some ⟨b, 0, none⟩) ∧ SAt wx b [.int .i64 x, .int .i64 y, .string s, .int .i64 z] ∧ Below W3.heap.size W3 wx)
  case first =>
    go_region_held (fun w' => (w'.cell? ⟨w.heap.size, 0, none⟩ = some (.int .i64 w1) ∧ w'.cell? ⟨w.heap.size, 1, none⟩ = some (.int .i64 h1) ∧ w'.cell? ⟨w.heap.size, 2, none⟩ = some (.string f) ∧ w'.cell? ⟨w.heap.size + 1, 0, none⟩ = some (.int .i64 w2) ∧ w'.cell? ⟨w.heap.size + 1, 1, none⟩ = some (.int .i64 h2) ∧ w'.cell? ⟨w.heap.size + 1, 2, none⟩ = some (.string d)) ∧ Below W3.heap.size W3 w') (first | (with_reducible exact holdFF (unhide A2) (unhide D2) (Below.refl _ _).drew) | (with_reducible exact holdFF (unhide A2) (unhide D2) (stepAllocX (by assumption) _)) | (with_reducible exact holdFF (unhide A2) (unhide D2) (by assumption)) | (with_reducible exact holdFF (unhide A2) (unhide D2) (stepAllocY (by assumption) _)) | (with_reducible exact holdFF (unhide A2) (unhide D2) (belFO (And.right (by assumption)) (by first | exact Nat.le_refl _ | exact Below.size (by assumption)) _ _ _ _))) (first | (go_at_call 11; (with_reducible refine (unhide cF _).mono ?_); rintro e wn ⟨rfl, hx⟩; have hw := stepCallX (w1 := W3) hx (by assumption); first | (have hr : ResvFO wn W3.heap.size := newDFO hx; have hr2 := hr; obtain ⟨rc, f0, f1, f2, f3⟩ := hr2; have r0 := rc 0 _ rfl; have r1 := rc 1 _ rfl; have r2 := rc 2 _ rfl; have r3 := rc 3 _ rfl) | (have hr := newFO hx; have hr2 := hr; obtain ⟨rc, f0, f1, f2, f3⟩ := hr2; have r0 := rc 0 _ rfl; have r1 := rc 1 _ rfl; have r2 := rc 2 _ rfl; have r3 := rc 3 _ rfl) | (have hr := keptFO (by assumption) hx; have hr2 := hr; obtain ⟨rc, f0, f1, f2, f3⟩ := hr2; have r0 := rc 0 _ rfl; have r1 := rc 1 _ rfl; have r2 := rc 2 _ rfl; have r3 := rc 3 _ rfl) | skip) | (go_at_call 11; (with_reducible refine (unhide cD _).mono ?_); rintro e wn ⟨rfl, hx⟩; have hw := stepCallX (w1 := W3) hx (by assumption); first | (have hr : ResvFO wn W3.heap.size := newDFO hx; have hr2 := hr; obtain ⟨rc, f0, f1, f2, f3⟩ := hr2; have r0 := rc 0 _ rfl; have r1 := rc 1 _ rfl; have r2 := rc 2 _ rfl; have r3 := rc 3 _ rfl) | (have hr := newFO hx; have hr2 := hr; obtain ⟨rc, f0, f1, f2, f3⟩ := hr2; have r0 := rc 0 _ rfl; have r1 := rc 1 _ rfl; have r2 := rc 2 _ rfl; have r3 := rc 3 _ rfl) | (have hr := keptFO (by assumption) hx; have hr2 := hr; obtain ⟨rc, f0, f1, f2, f3⟩ := hr2; have r0 := rc 0 _ rfl; have r1 := rc 1 _ rfl; have r2 := rc 2 _ rfl; have r3 := rc 3 _ rfl) | skip) | (go_at_call 13; (with_reducible refine (unhide cS _).mono ?_); rintro e wn ⟨rfl, hx⟩; have hw := stepCallX (w1 := W3) hx (by assumption); first | (have hr : ResvFO wn W3.heap.size := newDFO hx; have hr2 := hr; obtain ⟨rc, f0, f1, f2, f3⟩ := hr2; have r0 := rc 0 _ rfl; have r1 := rc 1 _ rfl; have r2 := rc 2 _ rfl; have r3 := rc 3 _ rfl) | (have hr := newFO hx; have hr2 := hr; obtain ⟨rc, f0, f1, f2, f3⟩ := hr2; have r0 := rc 0 _ rfl; have r1 := rc 1 _ rfl; have r2 := rc 2 _ rfl; have r3 := rc 3 _ rfl) | (have hr := keptFO (by assumption) hx; have hr2 := hr; obtain ⟨rc, f0, f1, f2, f3⟩ := hr2; have r0 := rc 0 _ rfl; have r1 := rc 1 _ rfl; have r2 := rc 2 _ rfl; have r3 := rc 3 _ rfl) | skip))
    all_goals (go_wp2_with fail; go_meet; refine ⟨_, rfl, ?_, ?_⟩)
    all_goals first | (with_reducible exact sAt_new _ [.int .i64 x, .int .i64 y, .string s, .int .i64 z] _) | (with_reducible exact stepAllocY (by assumption) _) | (with_reducible exact setFO (by assumption) _ _ _ _) | (with_reducible exact belFO (by assumption) (by first | exact Nat.le_refl _ | exact Below.size (by assumption)) _ _ _ _) | (with_reducible exact belFO (And.right (by assumption)) (by first | exact Nat.le_refl _ | exact Below.size (by assumption)) _ _ _ _) | trace_state
  case rest =>
  obtain ⟨b6, rfl, v6, hx⟩ := hcut
  have A3 := hide ((unhide A2).kept hx)
  have D3 := hide ((unhide D2).kept hx)
  have B3 := hide (below_call (unhide B2) hx)
  have V6 := hide v6
  clear hx v6 A2 D2 B2
  generalize wc = W4 at A3 D3 B3 V6 ⊢
  go_wp2_with fail
  go_cut [7] (fun sv wx => ∃ b, sv = .pointer (some ⟨b, 0, none⟩) ∧ SAt wx b [.int .i64 x, .int .i64 y, .string s, .int .i64 z] ∧ Below W4.heap.size W4 wx)
  case first =>
    go_region_held (fun w' => (w'.cell? ⟨w.heap.size, 0, none⟩ = some (.int .i64 w1) ∧ w'.cell? ⟨w.heap.size, 1, none⟩ = some (.int .i64 h1) ∧ w'.cell? ⟨w.heap.size, 2, none⟩ = some (.string f) ∧ w'.cell? ⟨w.heap.size + 1, 0, none⟩ = some (.int .i64 w2) ∧ w'.cell? ⟨w.heap.size + 1, 1, none⟩ = some (.int .i64 h2) ∧ w'.cell? ⟨w.heap.size + 1, 2, none⟩ = some (.string d)) ∧ Below W4.heap.size W4 w') (first | (with_reducible exact holdFF (unhide A3) (unhide D3) (Below.refl _ _).drew) | (with_reducible exact holdFF (unhide A3) (unhide D3) (stepAllocX (by assumption) _)) | (with_reducible exact holdFF (unhide A3) (unhide D3) (by assumption)) | (with_reducible exact holdFF (unhide A3) (unhide D3) (stepAllocY (by assumption) _)) | (with_reducible exact holdFF (unhide A3) (unhide D3) (belFO (And.right (by assumption)) (by first | exact Nat.le_refl _ | exact Below.size (by assumption)) _ _ _ _))) (first | (go_at_call 11; (with_reducible refine (unhide cF _).mono ?_); rintro e wn ⟨rfl, hx⟩; have hw := stepCallX (w1 := W4) hx (by assumption); first | (have hr : ResvFO wn W4.heap.size := newDFO hx; have hr2 := hr; obtain ⟨rc, f0, f1, f2, f3⟩ := hr2; have r0 := rc 0 _ rfl; have r1 := rc 1 _ rfl; have r2 := rc 2 _ rfl; have r3 := rc 3 _ rfl) | (have hr := newFO hx; have hr2 := hr; obtain ⟨rc, f0, f1, f2, f3⟩ := hr2; have r0 := rc 0 _ rfl; have r1 := rc 1 _ rfl; have r2 := rc 2 _ rfl; have r3 := rc 3 _ rfl) | (have hr := keptFO (by assumption) hx; have hr2 := hr; obtain ⟨rc, f0, f1, f2, f3⟩ := hr2; have r0 := rc 0 _ rfl; have r1 := rc 1 _ rfl; have r2 := rc 2 _ rfl; have r3 := rc 3 _ rfl) | skip) | (go_at_call 11; (with_reducible refine (unhide cD _).mono ?_); rintro e wn ⟨rfl, hx⟩; have hw := stepCallX (w1 := W4) hx (by assumption); first | (have hr : ResvFO wn W4.heap.size := newDFO hx; have hr2 := hr; obtain ⟨rc, f0, f1, f2, f3⟩ := hr2; have r0 := rc 0 _ rfl; have r1 := rc 1 _ rfl; have r2 := rc 2 _ rfl; have r3 := rc 3 _ rfl) | (have hr := newFO hx; have hr2 := hr; obtain ⟨rc, f0, f1, f2, f3⟩ := hr2; have r0 := rc 0 _ rfl; have r1 := rc 1 _ rfl; have r2 := rc 2 _ rfl; have r3 := rc 3 _ rfl) | (have hr := keptFO (by assumption) hx; have hr2 := hr; obtain ⟨rc, f0, f1, f2, f3⟩ := hr2; have r0 := rc 0 _ rfl; have r1 := rc 1 _ rfl; have r2 := rc 2 _ rfl; have r3 := rc 3 _ rfl) | skip) | (go_at_call 14; (with_reducible refine (unhide cI _).mono ?_); rintro e wn ⟨rfl, hx⟩; have hw := stepCallX (w1 := W4) hx (by assumption); first | (have hr : ResvFO wn W4.heap.size := newDFO hx; have hr2 := hr; obtain ⟨rc, f0, f1, f2, f3⟩ := hr2; have r0 := rc 0 _ rfl; have r1 := rc 1 _ rfl; have r2 := rc 2 _ rfl; have r3 := rc 3 _ rfl) | (have hr := newFO hx; have hr2 := hr; obtain ⟨rc, f0, f1, f2, f3⟩ := hr2; have r0 := rc 0 _ rfl; have r1 := rc 1 _ rfl; have r2 := rc 2 _ rfl; have r3 := rc 3 _ rfl) | (have hr := keptFO (by assumption) hx; have hr2 := hr; obtain ⟨rc, f0, f1, f2, f3⟩ := hr2; have r0 := rc 0 _ rfl; have r1 := rc 1 _ rfl; have r2 := rc 2 _ rfl; have r3 := rc 3 _ rfl) | skip))
    all_goals (go_wp2_with fail; go_meet; refine ⟨_, rfl, ?_, ?_⟩)
    all_goals first | (with_reducible exact sAt_new _ [.int .i64 x, .int .i64 y, .string s, .int .i64 z] _) | (with_reducible exact stepAllocY (by assumption) _) | (with_reducible exact setFO (by assumption) _ _ _ _) | (with_reducible exact belFO (by assumption) (by first | exact Nat.le_refl _ | exact Below.size (by assumption)) _ _ _ _) | (with_reducible exact belFO (And.right (by assumption)) (by first | exact Nat.le_refl _ | exact Below.size (by assumption)) _ _ _ _) | trace_state
  case rest =>
  obtain ⟨b7, rfl, v7, hx⟩ := hcut
  have B4 := hide (below_call (unhide B3) hx)
  obtain ⟨c0, c1, c2, c3⟩ := ((unhide V6).kept hx).c4
  obtain ⟨d0, d1, d2, d3⟩ := v7.c4
  clear hx v7 A3 D3 B3 V6
  go_wp2_with fail
  refine (eqFrameOut_same x y z s _).mono ?_
  rintro e W6 ⟨rfl, hx⟩
  have B5 := below_call (unhide B4) hx
  clear hx
  go_wp2_with fail
  go_ret
  exact ⟨rfl, B5⟩
end Go.Proofs.Yteelpcpkgmcmbaa
