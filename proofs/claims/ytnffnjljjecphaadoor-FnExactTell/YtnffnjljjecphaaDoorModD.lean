/- A tracker copied; what the laws do with what is answered. -/
import Derived.Test.YtnffnjljjecphaaDoorModC
import Derived.Test.YtnffnjljjecphaaDoorRowR
import Derived.Deep.RegionHeld
import Derived.Deep.DeepCutAuto
namespace Go.Proofs.YtnffnjljjecphaaDoor
open Go.RowKit Go.Sort
set_option linter.unusedVariables false

def FreeK (w : World) (b : Nat) : Prop := ∀ i, w.frozen? ⟨b, i, none⟩ = false
theorem FreeK.kept {w w' : World} {b : Nat} (h : FreeK w b) (hb : b < w.heap.size) (hB : Below w.heap.size w w') : FreeK w' b := fun i => (hB.frozen (p := ⟨b, i, none⟩) hb).trans (h i)
theorem freeK_new (w : World) (cs : Array Value) (t : TypeId) : FreeK (w.alloc (.cells cs t)) w.heap.size := fun i => by simp
theorem FreeK.set {w : World} {b : Nat} (h : FreeK w b) (p : Addr) (v : Value) : FreeK (w.setCell p v) b := fun i => by rw [World.frozen?_setCell]; exact h i
theorem OwnS.far {w : World} {b n k : Nat} {L : List St} (h : OwnS w b n L k) {b' : Nat} (hne : b ≠ b') (o : Nat) (x : Value) : OwnS (w.setCell ⟨b', o, none⟩ x) b n L k := by
  obtain ⟨cur, hc, r⟩ := h
  exact ⟨cur, by rw [Below.heap_setCell w ⟨b', o, none⟩ x b hne]; exact hc, r⟩
theorem TkAt.far {w : World} {b : Nat} {v : Value} {lim mode A B C D coast fr : Int} (h : TkAt w b v lim mode A B C D coast fr) {b' : Nat} (hne : b ≠ b') (o : Nat) (x : Value) : TkAt (w.setCell ⟨b', o, none⟩ x) b v lim mode A B C D coast fr := by
  obtain ⟨h0, h1, h2, h3, h4, h5, h6, h7, h8⟩ := h
  refine ⟨?_, ?_, ?_, ?_, ?_, ?_, ?_, ?_, ?_⟩ <;> (rw [World.cell?_setCell_far _ _ _ _ (Ne.symm hne)]; assumption)
theorem tkAt_set3 {w : World} {b : Nat} {u : Value} {lim0 mode0 A B C D coast fr : Int} (h : TkAt w b u lim0 mode0 A B C D coast fr) (v : Value) (lim mode : Int) : TkAt (((w.setCell ⟨b, 0, none⟩ v).setCell ⟨b, 1, none⟩ (.int .i64 lim)).setCell ⟨b, 2, none⟩ (.int .i64 mode)) b v lim mode A B C D coast fr := by
  obtain ⟨h0, h1, h2, h3, h4, h5, h6, h7, h8⟩ := h
  refine ⟨?_, ?_, ?_, ?_, ?_, ?_, ?_, ?_, ?_⟩ <;> simp [go_sem, h0, h1, h2, h3, h4, h5, h6, h7, h8]
theorem tkAt_set9 {w : World} {b : Nat} {u : Value} {lim0 mode0 A0 B0 C0 D0 coast0 fr0 : Int} (h : TkAt w b u lim0 mode0 A0 B0 C0 D0 coast0 fr0) (v : Value) (lim mode A B C D coast fr : Int) : TkAt (((((((((w.setCell ⟨b, 0, none⟩ v).setCell ⟨b, 1, none⟩ (.int .i64 lim)).setCell ⟨b, 2, none⟩ (.int .i64 mode)).setCell ⟨b, 3, none⟩ (.int .i64 A)).setCell ⟨b, 4, none⟩ (.int .i64 B)).setCell ⟨b, 5, none⟩ (.int .i64 C)).setCell ⟨b, 6, none⟩ (.int .i64 D)).setCell ⟨b, 7, none⟩ (.int .i64 coast)).setCell ⟨b, 8, none⟩ (.int .i64 fr)) b v lim mode A B C D coast fr := by
  obtain ⟨h0, h1, h2, h3, h4, h5, h6, h7, h8⟩ := h
  refine ⟨?_, ?_, ?_, ?_, ?_, ?_, ?_, ?_, ?_⟩ <;> simp [go_sem, h0, h1, h2, h3, h4, h5, h6, h7, h8]
theorem res_toTracker (T : Array Value) (X : World) (b : Nat) (v : Value) (lim mode A B C D coast fr : Int) (hT : T.getD 2 undef = .pointer (some ⟨b, 0, none⟩)) (h : TkAt X b v lim mode A B C D coast fr) : (results Tryd.f21 T).run Tryd.prog X = .ok (.agg #[v, .int .i64 lim, .int .i64 mode, .int .i64 A, .int .i64 B, .int .i64 C, .int .i64 D, .int .i64 coast, .int .i64 fr]) X := by
  obtain ⟨h0, h1, h2, h3, h4, h5, h6, h7, h8⟩ := h
  simp only [Array.getD_eq_getD_getElem?] at hT
  simp [results, Tryd.results21, go_sem, hT, h0, h1, h2, h3, h4, h5, h6, h7, h8]
theorem belowSet {B : Nat} {w w1 : World} (h : Below B w w1) {b : Nat} (hb : B ≤ b) (o : Nat) (v : Value) : Below B w (w1.setCell ⟨b, o, none⟩ v) := h.setCell hb v

set_option maxHeartbeats 4000000 in
set_option maxRecDepth 100000 in
theorem toTracker_any (L : List St) (lim mode A B C D coast fr : Int) (a : Option Addr) (c : Nat) (w : World) (hn : L.length ≤ 1048576) (hS : Stars w a L L.length) :
    Calls Tryd.prog 21 #[.agg #[.slice a L.length c, .int .i64 lim, .int .i64 mode, .int .i64 A, .int .i64 B, .int .i64 C, .int .i64 D, .int .i64 coast, .int .i64 fr]] w fun e w' => ∃ b, e = .returned (.agg #[.slice (some ⟨b, 0, none⟩) L.length L.length, .int .i64 lim, .int .i64 mode, .int .i64 A, .int .i64 B, .int .i64 C, .int .i64 D, .int .i64 coast, .int .i64 fr]) ∧ OwnS w' b L.length L L.length ∧ w.heap.size ≤ b ∧ Below w.heap.size w w' := by
  have B0 := below3 w (.cells #[.slice a L.length c, .int .i64 lim, .int .i64 mode, .int .i64 A, .int .i64 B, .int .i64 C, .int .i64 D, .int .i64 coast, .int .i64 fr] 48) (.cells #[.slice none 0 0, .int .i64 0, .int .i64 0, .int .i64 0, .int .i64 0, .int .i64 0, .int .i64 0, .int .i64 0, .int .i64 0] 53) (.cells #[.slice none 0 0, .int .i64 0, .int .i64 0, .int .i64 0, .int .i64 0, .int .i64 0, .int .i64 0, .int .i64 0, .int .i64 0] 53)
  have S0 := tkAt_new w (.slice a L.length c) lim mode A B C D coast fr 48
  have S0' := (S0.kept (below1 _ (.cells #[.slice none 0 0, .int .i64 0, .int .i64 0, .int .i64 0, .int .i64 0, .int .i64 0, .int .i64 0, .int .i64 0, .int .i64 0] 53))).kept (below1 _ (.cells #[.slice none 0 0, .int .i64 0, .int .i64 0, .int .i64 0, .int .i64 0, .int .i64 0, .int .i64 0, .int .i64 0, .int .i64 0] 53))
  have R0 := (by simpa using tkAt_new (w.alloc (.cells #[.slice a L.length c, .int .i64 lim, .int .i64 mode, .int .i64 A, .int .i64 B, .int .i64 C, .int .i64 D, .int .i64 coast, .int .i64 fr] 48)) (.slice none 0 0) 0 0 0 0 0 0 0 0 53 : TkAt ((w.alloc (.cells #[.slice a L.length c, .int .i64 lim, .int .i64 mode, .int .i64 A, .int .i64 B, .int .i64 C, .int .i64 D, .int .i64 coast, .int .i64 fr] 48)).alloc (.cells #[.slice none 0 0, .int .i64 0, .int .i64 0, .int .i64 0, .int .i64 0, .int .i64 0, .int .i64 0, .int .i64 0, .int .i64 0] 53)) (w.heap.size + 1) (.slice none 0 0) 0 0 0 0 0 0 0 0)
  have R0' := R0.kept (below1 _ (.cells #[.slice none 0 0, .int .i64 0, .int .i64 0, .int .i64 0, .int .i64 0, .int .i64 0, .int .i64 0, .int .i64 0, .int .i64 0] 53))
  have U0 := (by simpa using tkAt_new ((w.alloc (.cells #[.slice a L.length c, .int .i64 lim, .int .i64 mode, .int .i64 A, .int .i64 B, .int .i64 C, .int .i64 D, .int .i64 coast, .int .i64 fr] 48)).alloc (.cells #[.slice none 0 0, .int .i64 0, .int .i64 0, .int .i64 0, .int .i64 0, .int .i64 0, .int .i64 0, .int .i64 0, .int .i64 0] 53)) (.slice none 0 0) 0 0 0 0 0 0 0 0 53 : TkAt (((w.alloc (.cells #[.slice a L.length c, .int .i64 lim, .int .i64 mode, .int .i64 A, .int .i64 B, .int .i64 C, .int .i64 D, .int .i64 coast, .int .i64 fr] 48)).alloc (.cells #[.slice none 0 0, .int .i64 0, .int .i64 0, .int .i64 0, .int .i64 0, .int .i64 0, .int .i64 0, .int .i64 0, .int .i64 0] 53)).alloc (.cells #[.slice none 0 0, .int .i64 0, .int .i64 0, .int .i64 0, .int .i64 0, .int .i64 0, .int .i64 0, .int .i64 0, .int .i64 0] 53)) (w.heap.size + 1 + 1) (.slice none 0 0) 0 0 0 0 0 0 0 0)
  have F1 := (by simpa using freeK_new (w.alloc (.cells #[.slice a L.length c, .int .i64 lim, .int .i64 mode, .int .i64 A, .int .i64 B, .int .i64 C, .int .i64 D, .int .i64 coast, .int .i64 fr] 48)) #[.slice none 0 0, .int .i64 0, .int .i64 0, .int .i64 0, .int .i64 0, .int .i64 0, .int .i64 0, .int .i64 0, .int .i64 0] 53 : FreeK ((w.alloc (.cells #[.slice a L.length c, .int .i64 lim, .int .i64 mode, .int .i64 A, .int .i64 B, .int .i64 C, .int .i64 D, .int .i64 coast, .int .i64 fr] 48)).alloc (.cells #[.slice none 0 0, .int .i64 0, .int .i64 0, .int .i64 0, .int .i64 0, .int .i64 0, .int .i64 0, .int .i64 0, .int .i64 0] 53)) (w.heap.size + 1))
  have F1' := F1.kept (by simp) (below1 _ (.cells #[.slice none 0 0, .int .i64 0, .int .i64 0, .int .i64 0, .int .i64 0, .int .i64 0, .int .i64 0, .int .i64 0, .int .i64 0] 53))
  have F2 := (by simpa using freeK_new ((w.alloc (.cells #[.slice a L.length c, .int .i64 lim, .int .i64 mode, .int .i64 A, .int .i64 B, .int .i64 C, .int .i64 D, .int .i64 coast, .int .i64 fr] 48)).alloc (.cells #[.slice none 0 0, .int .i64 0, .int .i64 0, .int .i64 0, .int .i64 0, .int .i64 0, .int .i64 0, .int .i64 0, .int .i64 0] 53)) #[.slice none 0 0, .int .i64 0, .int .i64 0, .int .i64 0, .int .i64 0, .int .i64 0, .int .i64 0, .int .i64 0, .int .i64 0] 53 : FreeK (((w.alloc (.cells #[.slice a L.length c, .int .i64 lim, .int .i64 mode, .int .i64 A, .int .i64 B, .int .i64 C, .int .i64 D, .int .i64 coast, .int .i64 fr] 48)).alloc (.cells #[.slice none 0 0, .int .i64 0, .int .i64 0, .int .i64 0, .int .i64 0, .int .i64 0, .int .i64 0, .int .i64 0, .int .i64 0] 53)).alloc (.cells #[.slice none 0 0, .int .i64 0, .int .i64 0, .int .i64 0, .int .i64 0, .int .i64 0, .int .i64 0, .int .i64 0, .int .i64 0] 53)) (w.heap.size + 1 + 1))
  have cT := hide (toStarS_any L a c _ hn (hS.kept B0))
  have HB := hide B0
  have HS := hide S0'
  have HR := hide R0'
  have HU := hide U0
  have HF := hide F1'
  have HG := hide F2
  clear B0 S0 S0' R0 R0' U0 F1 F1' F2 hS
  go_enter Tryd.func21, Tryd.ntmps21
  go_wp2_with fail
  refine (unhide cT).mono ?_
  rintro e w1 ⟨rfl, ho, hx⟩
  have O1 := hide ho
  have S1 := hide ((unhide HS).kept hx)
  have R1 := hide ((unhide HR).kept hx)
  have U1 := hide ((unhide HU).kept hx)
  have F1 := hide ((unhide HF).kept (unhide HR).lt hx)
  have G1 := hide ((unhide HG).kept (unhide HU).lt hx)
  have B1 := hide (below_call (unhide HB) hx)
  have hb : (((w.alloc (.cells #[.slice a L.length c, .int .i64 lim, .int .i64 mode, .int .i64 A, .int .i64 B, .int .i64 C, .int .i64 D, .int .i64 coast, .int .i64 fr] 48)).alloc (.cells #[.slice none 0 0, .int .i64 0, .int .i64 0, .int .i64 0, .int .i64 0, .int .i64 0, .int .i64 0, .int .i64 0, .int .i64 0] 53)).alloc (.cells #[.slice none 0 0, .int .i64 0, .int .i64 0, .int .i64 0, .int .i64 0, .int .i64 0, .int .i64 0, .int .i64 0, .int .i64 0] 53)).heap.size = w.heap.size + 1 + 1 + 1 := by simp
  rw [hb] at O1 ⊢
  clear hb ho hx HB HS HR HU HF HG cT
  obtain ⟨s0, s1, s2, s3, s4, s5, s6, s7, s8⟩ := unhide S1
  obtain ⟨u0, u1, u2, u3, u4, u5, u6, u7, u8⟩ := unhide U1
  have g0 := unhide G1 0
  have g1 := unhide G1 1
  have g2 := unhide G1 2
  go_wp2_with fail
  clear s0 s1 s2 s3 s4 s5 s6 s7 s8 u0 u1 u2 u3 u4 u5 u6 u7 u8 g0 g1 g2
  refine (toTurn_any' A B C D _).mono ?_
  rintro e w2 ⟨rfl, hx⟩
  have Y1 := belowSet (belowSet (belowSet (unhide B1) (b := w.heap.size + 1 + 1) (by omega) 0 (.slice (some ⟨w.heap.size + 1 + 1 + 1, 0, none⟩) L.length L.length)) (b := w.heap.size + 1 + 1) (by omega) 1 (.int .i64 lim)) (b := w.heap.size + 1 + 1) (by omega) 2 (.int .i64 mode)
  have S2 := ((((unhide S1).far (b' := w.heap.size + 1 + 1) (by omega) 0 (.slice (some ⟨w.heap.size + 1 + 1 + 1, 0, none⟩) L.length L.length)).far (b' := w.heap.size + 1 + 1) (by omega) 1 (.int .i64 lim)).far (b' := w.heap.size + 1 + 1) (by omega) 2 (.int .i64 mode)).kept hx
  have R2 := ((((unhide R1).far (b' := w.heap.size + 1 + 1) (by omega) 0 (.slice (some ⟨w.heap.size + 1 + 1 + 1, 0, none⟩) L.length L.length)).far (b' := w.heap.size + 1 + 1) (by omega) 1 (.int .i64 lim)).far (b' := w.heap.size + 1 + 1) (by omega) 2 (.int .i64 mode))
  have U2 := tkAt_set3 (unhide U1) (.slice (some ⟨w.heap.size + 1 + 1 + 1, 0, none⟩) L.length L.length) lim mode
  have G2 := hide (((((unhide G1).set ⟨w.heap.size + 1 + 1, 0, none⟩ (.slice (some ⟨w.heap.size + 1 + 1 + 1, 0, none⟩) L.length L.length)).set ⟨w.heap.size + 1 + 1, 1, none⟩ (.int .i64 lim)).set ⟨w.heap.size + 1 + 1, 2, none⟩ (.int .i64 mode)).kept U2.lt hx)
  have F2 := hide (((((unhide F1).set ⟨w.heap.size + 1 + 1, 0, none⟩ (.slice (some ⟨w.heap.size + 1 + 1 + 1, 0, none⟩) L.length L.length)).set ⟨w.heap.size + 1 + 1, 1, none⟩ (.int .i64 lim)).set ⟨w.heap.size + 1 + 1, 2, none⟩ (.int .i64 mode)).kept R2.lt hx)
  have O2 := hide (((((unhide O1).far (b' := w.heap.size + 1 + 1) (by omega) 0 (.slice (some ⟨w.heap.size + 1 + 1 + 1, 0, none⟩) L.length L.length)).far (b' := w.heap.size + 1 + 1) (by omega) 1 (.int .i64 lim)).far (b' := w.heap.size + 1 + 1) (by omega) 2 (.int .i64 mode)).kept hx)
  have B2 := hide (below_call Y1 hx)
  obtain ⟨s0, s1, s2, s3, s4, s5, s6, s7, s8⟩ := S2
  obtain ⟨u0, u1, u2, u3, u4, u5, u6, u7, u8⟩ := U2.kept hx
  have R3 := hide (R2.kept hx)
  obtain ⟨r0, r1, r2, r3, r4, r5, r6, r7, r8⟩ := unhide R3
  have g3 := unhide G2 3
  have g4 := unhide G2 4
  have g5 := unhide G2 5
  have g6 := unhide G2 6
  have g7 := unhide G2 7
  have g8 := unhide G2 8
  have f0 := unhide F2 0
  have f1 := unhide F2 1
  have f2 := unhide F2 2
  have f3 := unhide F2 3
  have f4 := unhide F2 4
  have f5 := unhide F2 5
  have f6 := unhide F2 6
  have f7 := unhide F2 7
  have f8 := unhide F2 8
  clear hx Y1 U2 R2 S1 R1 U1 F1 G1 B1 O1 G2 F2
  go_wp2_with fail
  refine bodyPost_ret (v := .agg #[.slice (some ⟨w.heap.size + 1 + 1 + 1, 0, none⟩) L.length L.length, .int .i64 lim, .int .i64 mode, .int .i64 A, .int .i64 B, .int .i64 C, .int .i64 D, .int .i64 coast, .int .i64 fr]) ?_ rfl ?_
  · refine res_toTracker _ _ (w.heap.size + 1) _ lim mode A B C D coast fr rfl ?_
    refine tkAt_set9 (lim0 := 0) (mode0 := 0) (A0 := 0) (B0 := 0) (C0 := 0) (D0 := 0) (coast0 := 0) (fr0 := 0) (u := .slice none 0 0) ?_ _ lim mode A B C D coast fr
    iterate 6 (refine TkAt.far ?_ (show w.heap.size + 1 ≠ w.heap.size + 1 + 1 by omega) _ _)
    exact unhide R3
  · refine ⟨w.heap.size + 1 + 1 + 1, rfl, ?_, by omega, ?_⟩
    · iterate 9 (refine OwnS.far ?_ (show w.heap.size + 1 + 1 + 1 ≠ w.heap.size + 1 by omega) _ _)
      iterate 6 (refine OwnS.far ?_ (show w.heap.size + 1 + 1 + 1 ≠ w.heap.size + 1 + 1 by omega) _ _)
      exact unhide O2
    · iterate 15 (refine belowSet ?_ (by omega) _ _)
      exact unhide B2

end Go.Proofs.YtnffnjljjecphaaDoor
